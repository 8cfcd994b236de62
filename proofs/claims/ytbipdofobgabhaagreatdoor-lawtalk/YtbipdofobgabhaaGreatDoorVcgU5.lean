/-
  The beginning of a state, in the program and in the document.
-/
import Derived.Test.YtbipdofobgabhaaGreatDoorVcgJ3
import Derived.Test.YtbipdofobgabhaaGreatDoorVcgFacts
import Derived.Test.YtbipdofobgabhaaGreatDoorVcgI
import Derived.Test.YtbipdofobgabhaaGreatDoorVcgRw
set_option linter.unusedVariables false
set_option maxHeartbeats 8000000
set_option maxRecDepth 20000
set_option linter.unusedSimpArgs false
set_option linter.unusedSectionVars false
namespace Go.Proofs.YtbipdofobgabhaaGreatDoor
open Go.bA
variable [aG]
def uv (s:Bool) (x y:Int):Int:=if s then y else x
def ZE (s:Bool):Int:=if s then 18446744073709551615 else 0
theorem j7 (s:Bool) {x y:Int} (hx:0≤x∧x < 18446744073709551616) (hy:0≤y∧y < 18446744073709551616):
  aV .xor .u64 x (aV .and .u64 (ZE s) (aV .xor .u64 x y))=uv s x y∧aV .xor .u64 y (aV .and .u64 (ZE s) (aV .xor .u64 x y))=uv s y x:=by
 obtain ⟨a,rfl⟩:=Int.eq_ofNat_of_zero_le hx.1
 obtain ⟨b,rfl⟩:=Int.eq_ofNat_of_zero_le hy.1
 have ha:a < 18446744073709551616:=by omega
 have hb:b < 18446744073709551616:=by omega
 have hab:a ^^^ b < 18446744073709551616:=Nat.xor_lt_two_pow (n:=64) ha hb
 rw[(ga a b ha hb).2.2]
 cases s
 ·have e:ZE false=((0:Nat):Int):=rfl
  rw[e,(ga 0 (a ^^^ b) (by decide) hab).1]
  simp only[Nat.zero_and]
  rw[(ga a 0 ha (by decide)).2.2,(ga b 0 hb (by decide)).2.2]
  simp[uv]
 ·have e:ZE true=((18446744073709551615:Nat):Int):=rfl
  rw[e,(ga 18446744073709551615 (a ^^^ b) (by decide) hab).1]
  have h1:18446744073709551615 &&& (a ^^^ b)=a ^^^ b:=by
   have:=Nat.and_two_pow_sub_one_eq_mod (a ^^^ b) 64
   rw[Nat.and_comm]
   rw[show (2:Nat)^64 - 1=18446744073709551615 from rfl]at this
   rw[this];exact Nat.mod_eq_of_lt hab
  rw[h1,(ga a (a ^^^ b) ha hab).2.2,(ga b (a ^^^ b) hb hab).2.2]
  simp only[uv,if_true]
  constructor
  ·rw[← Nat.xor_assoc,Nat.xor_self,Nat.zero_xor]
  ·rw[Nat.xor_comm a b, ← Nat.xor_assoc,Nat.xor_self,Nat.zero_xor]
def gv (i k:Nat) (n o:Int):Int:=if i < k then n else o
def WL (s:Bool) (r:R4) (k:Nat):List SV:=[
 Sum.inl (.int .u64 (gv 0 k (uv s r.x2.a0 r.x3.a0) r.x2.a0)),Sum.inl (.int .u64 (gv 1 k (uv s r.x2.a1 r.x3.a1) r.x2.a1)),Sum.inl (.int .u64 (gv 2 k (uv s r.x2.a2 r.x3.a2) r.x2.a2)),Sum.inl (.int .u64 (gv 3 k (uv s r.x2.a3 r.x3.a3) r.x2.a3)),Sum.inl (.int .u64 (gv 4 k (uv s r.x2.a4 r.x3.a4) r.x2.a4)),
 Sum.inl (.int .u64 (gv 0 k (uv s r.z2.a0 r.z3.a0) r.z2.a0)),Sum.inl (.int .u64 (gv 1 k (uv s r.z2.a1 r.z3.a1) r.z2.a1)),Sum.inl (.int .u64 (gv 2 k (uv s r.z2.a2 r.z3.a2) r.z2.a2)),Sum.inl (.int .u64 (gv 3 k (uv s r.z2.a3 r.z3.a3) r.z2.a3)),Sum.inl (.int .u64 (gv 4 k (uv s r.z2.a4 r.z3.a4) r.z2.a4)),
 Sum.inl (.int .u64 (gv 0 k (uv s r.x3.a0 r.x2.a0) r.x3.a0)),Sum.inl (.int .u64 (gv 1 k (uv s r.x3.a1 r.x2.a1) r.x3.a1)),Sum.inl (.int .u64 (gv 2 k (uv s r.x3.a2 r.x2.a2) r.x3.a2)),Sum.inl (.int .u64 (gv 3 k (uv s r.x3.a3 r.x2.a3) r.x3.a3)),Sum.inl (.int .u64 (gv 4 k (uv s r.x3.a4 r.x2.a4) r.x3.a4)),
 Sum.inl (.int .u64 (gv 0 k (uv s r.z3.a0 r.z2.a0) r.z3.a0)),Sum.inl (.int .u64 (gv 1 k (uv s r.z3.a1 r.z2.a1) r.z3.a1)),Sum.inl (.int .u64 (gv 2 k (uv s r.z3.a2 r.z2.a2) r.z3.a2)),Sum.inl (.int .u64 (gv 3 k (uv s r.z3.a3 r.z2.a3) r.z3.a3)),Sum.inl (.int .u64 (gv 4 k (uv s r.z3.a4 r.z2.a4) r.z3.a4))]
def TW (s:Bool) (r:R4):R4:=if s then ⟨r.x3,r.z3,r.x2,r.z2⟩ else r
theorem RW (s:Bool) (r:R4):WL s r 0=r.l:=rfl
theorem UW (s:Bool) (r:R4):WL s r 5=(TW s r).l:=by cases s<;>rfl
theorem Dq (s:Bool) (r:R4) (h:r.Ok):(TW s r).Ok:=by
 cases s
 ·exact h
 ·exact ⟨h.x3,h.z3,h.x2,h.z2⟩
theorem F5.Ok.u {f:F5} (h:f.Ok):f.U:=by
 obtain ⟨⟨h0,wP⟩,⟨h1,h1'⟩,⟨h2,h2'⟩,⟨h3,h3'⟩,⟨h4,h4'⟩⟩:=h
 constructor<;>omega
theorem qI (s:Bool) (r:R4) (hr:r.Ok):cO Tryz.prog 21 [I .u64 (uv s 0 1),Ag r.l] (Ag (TW s r).l):=by
 have hn:IntKind.u64.wrap (0 - (uv s 0 1))=ZE s:=by cases s<;>decide
 have e0:=j7 s hr.x2.u.h0 hr.x3.u.h0
 have e1:=j7 s hr.x2.u.h1 hr.x3.u.h1
 have e2:=j7 s hr.x2.u.h2 hr.x3.u.h2
 have e3:=j7 s hr.x2.u.h3 hr.x3.u.h3
 have e4:=j7 s hr.x2.u.h4 hr.x3.u.h4
 have f0:=j7 s hr.z2.u.h0 hr.z3.u.h0
 have f1:=j7 s hr.z2.u.h1 hr.z3.u.h1
 have f2:=j7 s hr.z2.u.h2 hr.z3.u.h2
 have f3:=j7 s hr.z2.u.h3 hr.z3.u.h3
 have f4:=j7 s hr.z2.u.h4 hr.z3.u.h4
 refine bf Tryz.func21 rfl (by kernel_rfl) (by simp[Tryz.ntmps21]) rfl rfl ?_
 simp only[R4.l,Tryz.results21,iu,hn,vS,seval, -List.reduceReplicate]
 refine aQ 5 (fun k=>[(3,Ptr 0 0),(4,Ptr 1 0),(5,I .u64 (ZE s)),(11,I .i64 k)])
  (fun k=>[(0,⟨true,WL s r k⟩),(1,⟨true,[Sum.inl (Value.int IntKind.u64 0),Sum.inl (Value.int IntKind.u64 0),Sum.inl (Value.int IntKind.u64 0),Sum.inl (Value.int IntKind.u64 0),Sum.inl (Value.int IntKind.u64 0),Sum.inl (Value.int IntKind.u64 0),Sum.inl (Value.int IntKind.u64 0),Sum.inl (Value.int IntKind.u64 0),Sum.inl (Value.int IntKind.u64 0),Sum.inl (Value.int IntKind.u64 0),Sum.inl (Value.int IntKind.u64 0),Sum.inl (Value.int IntKind.u64 0),Sum.inl (Value.int IntKind.u64 0),Sum.inl (Value.int IntKind.u64 0),Sum.inl (Value.int IntKind.u64 0),Sum.inl (Value.int IntKind.u64 0),Sum.inl (Value.int IntKind.u64 0),Sum.inl (Value.int IntKind.u64 0),Sum.inl (Value.int IntKind.u64 0),Sum.inl (Value.int IntKind.u64 0)]⟩)]) _ ?_ ?_ ?_
 ·simp only[RW,R4.l,hn,vS,seval, -List.reduceReplicate]
 ·intro k hk
  match k,hk with
  | 0,_=>
   simp only[WL,gv,vS,seval, -List.reduceReplicate]
   refine aK (by decide) ?_
   simp only[vS,seval, -List.reduceReplicate]
   refine ⟨by kernel_rfl, ?_⟩
   refine ⟨by kernel_rfl, ?_⟩
   simp only[e0.1,e0.2,f0.1,f0.2,vS,seval, -List.reduceReplicate]
   rfl
  | 1,_=>
   simp only[WL,gv,vS,seval, -List.reduceReplicate]
   refine aK (by decide) ?_
   simp only[vS,seval, -List.reduceReplicate]
   refine ⟨by kernel_rfl, ?_⟩
   refine ⟨by kernel_rfl, ?_⟩
   simp only[e1.1,e1.2,f1.1,f1.2,vS,seval, -List.reduceReplicate]
   rfl
  | 2,_=>
   simp only[WL,gv,vS,seval, -List.reduceReplicate]
   refine aK (by decide) ?_
   simp only[vS,seval, -List.reduceReplicate]
   refine ⟨by kernel_rfl, ?_⟩
   refine ⟨by kernel_rfl, ?_⟩
   simp only[e2.1,e2.2,f2.1,f2.2,vS,seval, -List.reduceReplicate]
   rfl
  | 3,_=>
   simp only[WL,gv,vS,seval, -List.reduceReplicate]
   refine aK (by decide) ?_
   simp only[vS,seval, -List.reduceReplicate]
   refine ⟨by kernel_rfl, ?_⟩
   refine ⟨by kernel_rfl, ?_⟩
   simp only[e3.1,e3.2,f3.1,f3.2,vS,seval, -List.reduceReplicate]
   rfl
  | 4,_=>
   simp only[WL,gv,vS,seval, -List.reduceReplicate]
   refine aK (by decide) ?_
   simp only[vS,seval, -List.reduceReplicate]
   refine ⟨by kernel_rfl, ?_⟩
   refine ⟨by kernel_rfl, ?_⟩
   simp only[e4.1,e4.2,f4.1,f4.2,vS,seval, -List.reduceReplicate]
   rfl
 ·simp only[UW,R4.l,vS,seval, -List.reduceReplicate]
  refine aZ (by decide) ?_
  simp only[vS,seval, -List.reduceReplicate]
def oD (K:Nat→Int) (t:Nat):Bool:=(K (t / 8) / 2^(t%8))%2==1
def F5.zero:F5:=⟨0,0,0,0,0⟩
theorem F5.UX:F5.zero.Ok:=by
 constructor<;>simp[F5.zero]
def lC (K:Nat→Int) (u:F5):Nat→R4
 | 0=>⟨F5.one,F5.zero,u,F5.one⟩
 | k+1=>TW (oD K (254 - k)) (n5 (TW (oD K (254 - k)) (lC K u k)) u)
theorem j8 (K:Nat→Int) (u:F5) (hu:u.Ok): ∀ k,(lC K u k).Ok
 | 0=>⟨F5.J6,F5.UX,hu,F5.J6⟩
 | k+1=>Dq _ _ (Ca _ _ (Dq _ _ (j8 K u hu k)) hu)
def By (K:Nat→Int):Prop:= ∀ i,0≤K i∧K i < 256
theorem NV (t d:Nat) (h:t < 9223372036854775808):IntKind.i64.wrap ((t:Int).tdiv (d:Int))=((t / d:Nat):Int):=by
 have:t / d≤t:=Nat.div_le_self t d
 rw[← Int.ofNat_tdiv]
 generalize t / d=q at*
 rw[wrap_i64 _ (by omega) (by omega)]
theorem Un (t:Nat) (h:t < 9223372036854775808):IntKind.i64.wrap ((t:Int).tdiv 8)=((t / 8:Nat):Int):=NV t 8 h
theorem I5 (t:Nat):(t:Int).tmod 8=((t%8:Nat):Int):=(Int.ofNat_tmod t 8).symm
theorem CO (n:Nat):(0≤(n:Int))=True:=by simp
theorem fw {n m:Nat} (h:n < m):((n:Int) < (m:Int))=True:=by simp[h]
theorem ada (x:Int) (h0:0≤x) (h1:x < 18446744073709551616):aV .and .u64 x 1=x%2:=tC x 1 h0 h1 (by decide)
theorem Hq {x:Int} (h:0≤x) (n:Nat):0≤x / 2^n∧x / 2^n≤x:=by
 have hp:(0:Int) < 2^n:=Int.pow_pos (by decide)
 exact ⟨Int.ediv_nonneg h (Int.le_of_lt hp),Int.ediv_le_self _ h⟩
theorem Yf (K:Nat→Int) (hK:By K) (t:Nat):aV .and .u64 (IntKind.u64.wrap (ft .u8 (K (t / 8)) ((t%8:Nat):Int))) 1=uv (oD K t) 0 1:=by
 have h:=hK (t / 8)
 rw[tB .u8 _ _ (by simp[IntKind.bits];omega)]
 have hd:=Hq h.1 (t%8)
 simp only[uv,oD]
 rw[aC _ (by omega) (by omega),ada _ (by omega) (by omega)]
 by_cases he:K (t / 8) / 2^(t%8)%2=1
 ·simp[he]
 ·have:K (t / 8) / 2^(t%8)%2=0:=by omega
  simp[this]
theorem J7 (K:Nat→Int) (u:F5) (hK:By K) (hu:u.Ok):cO Tryz.prog 12 [Ag (ah .u8 32 K),Ag u.l] (Ag (dq (lC K u 255).x2 (iR (lC K u 255).z2 255)).l):=by
 refine bf Tryz.func12 rfl (by kernel_rfl) (by simp[Tryz.ntmps12]) rfl rfl ?_
 simp only[F5.l,Tryz.results12,iu,vS,seval, -List.reduceReplicate]
 refine aQ 255 (fun k=>[(2,Ptr 0 0),(3,Ptr 1 0),(4,Ptr 2 0),(5,Ptr 7 0),(6,I .i64 (254 - k))])
  (fun k=>[(0,⟨true,ah .u8 32 K⟩),(1,⟨true,u.l⟩),(2,⟨true,[Sum.inl (Value.int IntKind.u64 0),Sum.inl (Value.int IntKind.u64 0),Sum.inl (Value.int IntKind.u64 0),Sum.inl (Value.int IntKind.u64 0),Sum.inl (Value.int IntKind.u64 0)]⟩),(7,⟨true,(lC K u k).l⟩)]) _ ?_ ?_ ?_
 ·simp only[F5.l,R4.l,lC,F5.one,F5.zero,eG,vS,seval, -List.reduceReplicate]
 ·intro k hk
  obtain ⟨t,ht⟩: ∃ t:Nat,(254:Int) - k=t:=⟨254 - k,by omega⟩
  have ht':t < 255:=by omega
  have hw:IntKind.i64.wrap ((t:Int) - 1)=254 - ((k+1:Nat):Int):=by rw[wrap_i64 _ (by omega) (by omega)];omega
  simp only[F5.l,ht,vS,seval, -List.reduceReplicate]
  refine aK (by simp) ?_
  have hg:=aE .u8 32 K (t / 8) (by omega)
  have hb:=Yf K hK t
  have hq:=Un t (by omega)
  have hlt:(((t / 8:Nat):Int) < 32)=True:=fw (m:=32) (by omega)
  simp only[hq,I5,hg,hb,hlt,CO,Int.toNat_natCast,R4.l,F5.l,vS,seval, -List.reduceReplicate]
  refine ⟨by kernel_rfl, ?_⟩
  refine cO.draw (qI (oD K t) (lC K u k) (j8 K u hu k)) Tryz.yX ?_
  simp only[R4.l,F5.l,vS,seval, -List.reduceReplicate]
  refine cO.draw (Ho _ u (Dq _ _ (j8 K u hu k)) hu) Tryz.JH ?_
  simp only[R4.l,F5.l,vS,seval, -List.reduceReplicate]
  refine cO.draw (qI (oD K t) _ (Ca _ _ (Dq _ _ (j8 K u hu k)) hu)) Tryz.yX ?_
  have hs:lC K u (k+1)=TW (oD K t) (n5 (TW (oD K t) (lC K u k)) u):=by rw[lC,show 254 - k=t from by omega]
  simp only[R4.l,F5.l,hs,hw,vS,seval, -List.reduceReplicate]
 ·simp only[F5.l,vS,seval, -List.reduceReplicate]
  refine aZ (by simp) ?_
  simp only[F5.l,R4.l,vS,seval, -List.reduceReplicate]
  refine ⟨by kernel_rfl, ?_⟩
  refine cO.draw (Hn (lC K u 255).z2 (j8 K u hu 255).z2) Tryz.JI ?_
  simp only[F5.l,vS,seval, -List.reduceReplicate]
  refine cO.draw (kL (lC K u 255).x2 (iR (lC K u 255).z2 255) (j8 K u hu 255).x2 (jk _ (j8 K u hu 255).z2 255)) Tryz.fV ?_
  simp only[F5.l,vS,seval, -List.reduceReplicate]
def fL (K:Nat→Int) (i:Nat):Int:=if i=0 then K 0 - K 0%8 else if i=31 then K 31%64+64 else K i
theorem OD:((List.range 256).all fun n=>aV .andNot .u8 (n:Int) 7==(n:Int) - n%8)=true:=by kernel_rfl
theorem J8:((List.range 256).all fun n=>aV .or .u8 (aV .andNot .u8 (n:Int) 128) 64==(n:Int)%64+64)=true:=by kernel_rfl
theorem OE (K:Nat→Int) (hK:By K):By (fL K):=by
 intro i
 have h0:=hK 0
 have h1:=hK 31
 have h2:=hK i
 simp only[fL]
 split
 ·omega
 ·split<;>omega
theorem pP (n:Nat) (k:IntKind) (c:Int):(List.replicate n (Value.int k c)).all Value.oneCell'=true:=by
 rw[List.all_eq_true];intro x hx;rw[List.eq_of_mem_replicate hx];rfl
theorem aR (n:Nat) (k:IntKind) (c:Int):List.map Sum.inl (List.replicate n (Value.int k c))=ah k n (fun _=>c):=by
 rw[ah,List.map_replicate]
 apply List.ext_getElem?
 intro i
 simp[List.getElem?_replicate]
 split
 ·rename_i h;rw[List.getElem?_range h];rfl
 ·rename_i h;rw[List.getElem?_eq_none (by simp;omega)];rfl
theorem dk (k:IntKind) (n:Nat) (f g:Nat→Int):splice (ah k n f) 0 (ah k n g)=ah k n g:=by
 rw[splice];simp[af]
theorem gW (k:IntKind) (n:Nat) (f:Nat→Int):List.take n (ah k n f)=ah k n f:=List.take_of_length_le (by rw[af];exact Nat.le_refl n)
theorem yv {k:IntKind} {n:Nat} {f g:Nat→Int} (h: ∀ i,i < n→f i=g i):Ag (ah k n f)=Ag (ah k n g):=by rw[aW h]
theorem Hr (K:Nat→Int) (hK:By K):cO Tryz.prog 13 [Ag (ah .u8 32 K)] (Ag (ah .u8 32 (fL K))):=by
 refine bf Tryz.func13 rfl (by kernel_rfl) (by simp[Tryz.ntmps13]) rfl rfl ?_
 simp only[Tryz.results13,aE .u8 32 _ 0 (by omega),aE .u8 32 _ 31 (by omega),bb .u8 32 _ 0 (by omega),bb .u8 32 _ 31 (by omega),vR,seval, -List.reduceReplicate]
 have RX:aV .andNot .u8 (K 0) 7=K 0 - K 0%8:=by
  obtain ⟨n,hn⟩:=Int.eq_ofNat_of_zero_le (hK 0).1
  have:=List.all_eq_true.mp OD n (List.mem_range.mpr (by have:=(hK 0).2;omega))
  rw[hn];exact eq_of_beq this
 have aaM:aV .or .u8 (aV .andNot .u8 (K 31) 128) 64=K 31%64+64:=by
  obtain ⟨n,hn⟩:=Int.eq_ofNat_of_zero_le (hK 31).1
  have:=List.all_eq_true.mp J8 n (List.mem_range.mpr (by have:=(hK 31).2;omega))
  rw[hn];exact eq_of_beq this
 rw[RX,aaM]
 refine yv fun i _=> ?_
 simp only[fL,upd]
 by_cases h0:i=0
 ·subst h0;simp
 ·by_cases h1:i=31
  ·subst h1;simp
  ·simp[h0,h1]
def ju (K:Nat→Int):Nat→Nat→Int
 | 0=>fun _=>0
 | n+1=>upd (ju K n) (n / 8) (ju K n (n / 8)+K n*2^(n%8*8))
theorem lE (K:Nat→Int) (hK:By K): ∀ n,(∀ j,0≤ju K n j∧(n / 8 < j→ju K n j=0)∧ju K n j < 18446744073709551616)∧ju K n (n / 8) < 2^(n%8*8)
 | 0=>by simp[ju]
 | n+1=>by
  obtain ⟨h1,h2⟩:=lE K hK n
  have hk:=hK n
  have hb:K n*2^(n%8*8)≤255*2^(n%8*8):=Int.mul_le_mul_of_nonneg_right (by omega) (Int.le_of_lt (Int.pow_pos (by decide)))
  have hb0:0≤K n*2^(n%8*8):=Int.mul_nonneg hk.1 (Int.le_of_lt (Int.pow_pos (by decide)))
  have h3:=h1 (n / 8)
  have hm:n%8 < 8:=Nat.mod_lt _ (by decide)
  have hlt:ju K n (n / 8)+K n*2^(n%8*8) < 256*2^(n%8*8):=by omega
  have hle:(256:Int)*2^(n%8*8)≤18446744073709551616:=by
   generalize n%8=m at*
   match m,hm with
   | 0,_ | 1,_ | 2,_ | 3,_ | 4,_ | 5,_ | 6,_ | 7,_=>decide
  refine ⟨fun j=> ?_, ?_⟩
  ·have hj:=h1 j
   simp only[ju,upd]
   split
   ·refine ⟨by omega,fun hc=> ?_,by omega⟩
    omega
   ·exact ⟨hj.1,fun hc=>hj.2.1 (by omega),hj.2.2⟩
  ·simp only[ju,upd]
   by_cases h7:n%8=7
   ·rw[if_neg (by omega)]
    have:=(h1 ((n+1) / 8)).2.1 (by omega)
    rw[this,show (n+1)%8=0 from by omega];decide
   ·rw[show (n+1) / 8=n / 8 from by omega,if_pos rfl,show (n+1)%8*8=n%8*8+8 from by omega,Int.pow_add]
    omega
def dL (W:Nat→Int):F5:=⟨W 0%2251799813685248,W 1%274877906944*8192+W 0 / 2251799813685248,W 2%33554432*67108864+W 1 / 274877906944,W 3%4096*549755813888+W 2 / 33554432,W 3 / 4096%2251799813685248⟩
theorem uT (W:Nat→Int) (h: ∀ j,0≤W j∧W j < 18446744073709551616):(dL W).Ok:=by
 have h0:=h 0
 have h1:=h 1
 have h2:=h 2
 have h3:=h 3
 constructor<;>simp only[dL]<;>constructor<;>omega
theorem OG (x y:Int) (hx:0≤x) (hx':x < 18446744073709551616) (hy:0≤y) (hy':y < 18446744073709551616):aV .or .u64 x y=aV .or .u64 y x:=by
 obtain ⟨a,rfl⟩:=Int.eq_ofNat_of_zero_le hx
 obtain ⟨b,rfl⟩:=Int.eq_ofNat_of_zero_le hy
 rw[(ga a b (by omega) (by omega)).2.1,(ga b a (by omega) (by omega)).2.1,Nat.or_comm]
theorem Dr (a b:Int) (n:Nat) (hn:n < 64) (ha:0≤a) (ha':a < 2^n) (hb:0≤b) (hb':b*2^n < 18446744073709551616):aV .or .u64 a (b*2^n)=a+b*2^n:=by
 have hp:(0:Int) < 2^n:=Int.pow_pos (by decide)
 have hm:(2:Int)^n≤18446744073709551616:=by
  have:2^n≤2^64:=Nat.pow_le_pow_right (by decide) (Nat.le_of_lt hn)
  have e:(2:Int)^n=((2^n:Nat):Int):=by simp
  omega
 have h0:0≤b*2^n:=Int.mul_nonneg hb (Int.le_of_lt hp)
 rw[OG _ _ ha (by omega) h0 hb',Qx b a n hn hb hb' ha ha',Int.add_comm]
theorem join (a b:Int) (n m:Nat) (h:n+m=64) (hn:n < 64) (N M:Int) (hN:(2:Int)^n=N) (hM:(2:Int)^m=M) (ha:0≤a) (ha':a < 18446744073709551616) (hb:0≤b) (hb':b < 18446744073709551616):
  aV .or .u64 (a / M) (b*N%18446744073709551616)=b%M*N+a / M:=by
 have hNM:N*M=18446744073709551616:=by rw[← hN, ← hM, ← Int.pow_add,h];rfl
 have Yg:0 < M:=by rw[← hM];exact Int.pow_pos (by decide)
 have hN0:0 < N:=by rw[← hN];exact Int.pow_pos (by decide)
 have e:b*N%18446744073709551616=b%M*N:=by rw[← hNM,Int.mul_comm b N,Int.mul_emod_mul_of_pos _ _ hN0,Int.mul_comm]
 have hbm:=Int.emod_nonneg b (Int.ne_of_gt Yg)
 have hbl:=Int.emod_lt_of_pos b Yg
 have hle:b%M*N < 18446744073709551616:=by rw[← hNM,Int.mul_comm N M];exact Int.mul_lt_mul_of_pos_right hbl hN0
 have hd:a / M < N:=Int.ediv_lt_of_lt_mul Yg (by rw[hNM];exact ha')
 rw[e, ← hN,Dr (a / M) (b%M) n hn (Int.ediv_nonneg ha (Int.le_of_lt Yg)) (by rw[hN];exact hd) hbm (by rw[hN];exact hle),Int.add_comm]
theorem wA (x:Int) (n:Nat) (h:n≤64):ft .u64 x (n:Int)=x / 2^n:=tB .u64 x n h
theorem wB (x:Int) (n:Nat) (h:n≤64):jx .u64 x (n:Int)=x*2^n%18446744073709551616:=(pO .u64 x n h).trans (wrap_u64 _)
theorem LR (n:Nat) (h:n < 9223372036854775808):IntKind.i64.wrap ((n:Int))=(n:Int):=wrap_i64 _ (by omega) (by omega)
theorem dX (n:Nat) (h:n < 9223372036854775807):IntKind.i64.wrap ((n:Int)+1)=((n+1:Nat):Int):=wrap_i64 _ (by omega) (by omega)
theorem Hs (K:Nat→Int) (hK:By K):cO Tryz.prog 14 [Ag (ah .u8 32 K)] (Ag (dL (ju K 32)).l):=by
 refine bf Tryz.func14 rfl (by kernel_rfl) (by simp[Tryz.ntmps14]) rfl rfl ?_
 simp only[Tryz.results14,vR,seval, -List.reduceReplicate]
 refine aQ 32 (fun k=>[(2,Ptr 1 0),(3,Ptr 2 0),(6,Ag (ah .u8 32 K)),(7,I .i64 k)])
  (fun k=>[(1,⟨true,[Sum.inl (Value.int IntKind.u64 0),Sum.inl (Value.int IntKind.u64 0),Sum.inl (Value.int IntKind.u64 0),Sum.inl (Value.int IntKind.u64 0),Sum.inl (Value.int IntKind.u64 0)]⟩),(2,⟨true,ah .u64 4 (ju K k)⟩)]) _ ?_ ?_ ?_
 ·simp only[eG,ju,vR,seval, -List.reduceReplicate]
  rfl
 ·intro k hk
  have hkk:=hK k
  have hb:=lE K hK k
  have hb1:=lE K hK (k+1)
  have hm:k%8 < 8:=Nat.mod_lt _ (by decide)
  have hq:=Un k (by omega)
  have hmul:IntKind.i64.wrap (((k%8:Nat):Int)*8)=((k%8*8:Nat):Int):=by rw[wrap_i64 _ (by omega) (by omega)];omega
  have hu:IntKind.u64.wrap (K k)=K k:=aC _ (by omega) (by omega)
  have hv:K k*2^(k%8*8) < 18446744073709551616∧0≤K k*2^(k%8*8):=by
   have h:=(hb1.1 (k / 8)).2.2
   have h':=(hb.1 (k / 8)).1
   have hb0:0≤K k*2^(k%8*8):=Int.mul_nonneg hkk.1 (Int.le_of_lt (Int.pow_pos (by decide)))
   simp only[ju,upd,if_true]at h
   omega
  have hsh:jx .u64 (K k) ((k%8*8:Nat):Int)=K k*2^(k%8*8):=by
   rw[wB _ _ (by omega)];omega
  have hor:=Dr (ju K k (k / 8)) (K k) (k%8*8) (by omega) (hb.1 (k / 8)).1 hb.2 hkk.1 hv.1
  have hl4:(((k / 8:Nat):Int) < 4)=True:=fw (m:=4) (by omega)
  have Yh:((k:Int) < 32)=True:=fw (m:=32) hk
  simp only[vR,seval, -List.reduceReplicate]
  refine aK (by simp;omega) ?_
  simp only[Yh,aE .u8 32 K k hk,hq,I5,hmul,hu,hsh,hl4,aE .u64 4 _ (k / 8) (by omega),bb .u64 4 _ (k / 8) (by omega),hor,dX k (by omega),vR,seval, -List.reduceReplicate]
  exact ⟨by kernel_rfl,by omega,rfl⟩
 ·simp only[vR,seval, -List.reduceReplicate]
  refine aZ (by decide) ?_
  have hb:=(lE K hK 32).1
  generalize ju K 32=W at*
  have h0:=hb 0
  have h1:=hb 1
  have h2:=hb 2
  have h3:=hb 3
  have j1:=join (W 0) (W 1) 13 51 rfl (by decide) 8192 2251799813685248 rfl rfl h0.1 h0.2.2 h1.1 h1.2.2
  have j2:=join (W 1) (W 2) 26 38 rfl (by decide) 67108864 274877906944 rfl rfl h1.1 h1.2.2 h2.1 h2.2.2
  have j3:=join (W 2) (W 3) 39 25 rfl (by decide) 549755813888 33554432 rfl rfl h2.1 h2.2.2 h3.1 h3.2.2
  simp only[aE .u64 4 _ 0 (by omega),aE .u64 4 _ 1 (by omega),aE .u64 4 _ 2 (by omega),aE .u64 4 _ 3 (by omega),af,vS,seval, -List.reduceReplicate]
  rw[show jx .u64 (W 1) 13=W 1*8192%18446744073709551616 from wB _ 13 (by decide),show jx .u64 (W 2) 26=W 2*67108864%18446744073709551616 from wB _ 26 (by decide),show jx .u64 (W 3) 39=W 3*549755813888%18446744073709551616 from wB _ 39 (by decide),
   show ft .u64 (W 0) 51=W 0 / 2251799813685248 from wA _ 51 (by decide),show ft .u64 (W 1) 38=W 1 / 274877906944 from wA _ 38 (by decide),show ft .u64 (W 2) 25=W 2 / 33554432 from wA _ 25 (by decide),show ft .u64 (W 3) 12=W 3 / 4096 from wA _ 12 (by decide),j1,j2,j3,
   iK _ h0.1 h0.2.2,iK _ (by omega) (by omega),iK _ (by omega) (by omega),iK _ (by omega) (by omega),iK _ (by omega) (by omega)]
  rw[show (W 1%2251799813685248*8192+W 0 / 2251799813685248)%2251799813685248=W 1%274877906944*8192+W 0 / 2251799813685248 from by omega,
   show (W 2%274877906944*67108864+W 1 / 274877906944)%2251799813685248=W 2%33554432*67108864+W 1 / 274877906944 from by omega,
   show (W 3%33554432*549755813888+W 2 / 33554432)%2251799813685248=W 3%4096*549755813888+W 2 / 33554432 from by omega]
  rfl
def F5.at (f:F5):Nat→Int
 | 0=>f.a0
 | 1=>f.a1
 | 2=>f.a2
 | 3=>f.a3
 | _=>f.a4
def qk (f:F5):Nat→Int
 | 0=>19
 | k+1=>(f.at k+qk f k) / 2251799813685248
def pA (f:F5):Nat→Int
 | 0=>19*qk f 5
 | k+1=>(f.at k+pA f k) / 2251799813685248
theorem aaO (f:F5):qk f 1=(f.a0+19) / 2251799813685248:=rfl
theorem aaP (f:F5):qk f 2=(f.a1+qk f 1) / 2251799813685248:=rfl
theorem aaQ (f:F5):qk f 3=(f.a2+qk f 2) / 2251799813685248:=rfl
theorem aaR (f:F5):qk f 4=(f.a3+qk f 3) / 2251799813685248:=rfl
theorem aaS (f:F5):qk f 5=(f.a4+qk f 4) / 2251799813685248:=rfl
theorem aaT (f:F5):pA f 0=19*qk f 5:=rfl
theorem aaU (f:F5):pA f 1=(f.a0+pA f 0) / 2251799813685248:=rfl
theorem aaV (f:F5):pA f 2=(f.a1+pA f 1) / 2251799813685248:=rfl
theorem aaW (f:F5):pA f 3=(f.a2+pA f 2) / 2251799813685248:=rfl
theorem aaX (f:F5):pA f 4=(f.a3+pA f 3) / 2251799813685248:=rfl
theorem adh (f:F5):pA f 5=(f.a4+pA f 4) / 2251799813685248:=rfl
def gF (f:F5):F5:=⟨(f.a0+pA f 0)%2251799813685248,(f.a1+pA f 1)%2251799813685248,(f.a2+pA f 2)%2251799813685248,(f.a3+pA f 3)%2251799813685248,(f.a4+pA f 4)%2251799813685248⟩
def Ht (f:F5) (k:Nat):List SV:=[Sum.inl (.int .u64 (gv 0 k (gF f).a0 f.a0)),Sum.inl (.int .u64 (gv 1 k (gF f).a1 f.a1)),Sum.inl (.int .u64 (gv 2 k (gF f).a2 f.a2)),Sum.inl (.int .u64 (gv 3 k (gF f).a3 f.a3)),Sum.inl (.int .u64 (gv 4 k (gF f).a4 f.a4))]
theorem UY (f:F5) (h:f.Ok):(qk f 5=0∧f.v < PP)∨(qk f 5=1∧PP≤f.v):=by
 obtain ⟨⟨h0,wP⟩,⟨h1,h1'⟩,⟨h2,h2'⟩,⟨h3,h3'⟩,⟨h4,h4'⟩⟩:=h
 have e1:=aaO f
 have e2:=aaP f
 have e3:=aaQ f
 have e4:=aaR f
 have e5:=aaS f
 generalize qk f 1=o1 at*
 generalize qk f 2=o2 at*
 generalize qk f 3=o3 at*
 generalize qk f 4=o4 at*
 generalize qk f 5=o5 at*
 simp only[F5.v,PP]
 have:o5=0∨o5=1:=by omega
 rcases this with rfl | rfl
 ·left;refine ⟨rfl, ?_⟩;omega
 ·right;refine ⟨rfl, ?_⟩;omega
theorem lG (f:F5) (h:f.Ok):(gF f).v=f.v%PP∧(0≤(gF f).a0∧(gF f).a0 < 2251799813685248)∧(0≤(gF f).a1∧(gF f).a1 < 2251799813685248)∧(0≤(gF f).a2∧(gF f).a2 < 2251799813685248)∧(0≤(gF f).a3∧(gF f).a3 < 2251799813685248)∧(0≤(gF f).a4∧(gF f).a4 < 2251799813685248):=by
 obtain ⟨⟨h0,wP⟩,⟨h1,h1'⟩,⟨h2,h2'⟩,⟨h3,h3'⟩,⟨h4,h4'⟩⟩:=h
 refine ⟨?_, ?_⟩
 ·have ho:=UY f ⟨⟨h0,wP⟩,⟨h1,h1'⟩,⟨h2,h2'⟩,⟨h3,h3'⟩,⟨h4,h4'⟩⟩
  have e0:=aaT f
  have e1:=aaU f
  have e2:=aaV f
  have e3:=aaW f
  have e4:=aaX f
  have e5:=adh f
  simp only[gF]
  generalize pA f 0=c0 at*
  generalize pA f 1=c1 at*
  generalize pA f 2=c2 at*
  generalize pA f 3=c3 at*
  generalize pA f 4=c4 at*
  generalize pA f 5=c5 at*
  generalize qk f 5=o at*
  simp only[F5.v,PP]at*
  rcases ho with ⟨rfl,hv⟩ | ⟨rfl,hv⟩
  ·have:c5=0:=by omega
   omega
  ·have:c5=1:=by omega
   omega
 ·simp only[gF]
  omega
theorem Hu (f:F5) (h:f.Ok):cO Tryz.prog 20 [Ag f.l] (Ag (gF f).l):=by
 obtain ⟨⟨h0,wP⟩,⟨h1,h1'⟩,⟨h2,h2'⟩,⟨h3,h3'⟩,⟨h4,h4'⟩⟩:=h
 have o1:0≤qk f 1∧qk f 1≤1:=by rw[aaO];omega
 have o2:0≤qk f 2∧qk f 2≤1:=by rw[aaP];omega
 have o3:0≤qk f 3∧qk f 3≤1:=by rw[aaQ];omega
 have o4:0≤qk f 4∧qk f 4≤1:=by rw[aaR];omega
 have o0:qk f 0=19:=rfl
 refine bf Tryz.func20 rfl (by kernel_rfl) (by simp[Tryz.ntmps20]) rfl rfl ?_
 simp only[F5.l,Tryz.results20,vS,seval, -List.reduceReplicate]
 refine aQ 5 (fun k=>[(1,Ptr 0 0),(2,Ptr 1 0),(3,I .u64 (qk f k)),(8,Ag f.l),(9,I .i64 k)])
  (fun _=>[(0,⟨true,f.l⟩),(1,⟨true,[Sum.inl (Value.int IntKind.u64 0),Sum.inl (Value.int IntKind.u64 0),Sum.inl (Value.int IntKind.u64 0),Sum.inl (Value.int IntKind.u64 0),Sum.inl (Value.int IntKind.u64 0)]⟩)]) _ ?_ ?_ ?_
 ·simp only[F5.l,vS,seval, -List.reduceReplicate]
  rfl
 ·intro k hk
  match k,hk with
  | 0,_=>
   simp only[F5.l,vS,seval, -List.reduceReplicate]
   refine aK (by decide) ?_
   simp only[oy,vS,seval, -List.reduceReplicate]
   rw[aC _ (by omega) (by omega)]
   exact ⟨rfl,rfl⟩
  | 1,_=>
   simp only[F5.l,vS,seval, -List.reduceReplicate]
   refine aK (by decide) ?_
   simp only[oy,vS,seval, -List.reduceReplicate]
   rw[aC _ (by omega) (by omega)]
   exact ⟨rfl,rfl⟩
  | 2,_=>
   simp only[F5.l,vS,seval, -List.reduceReplicate]
   refine aK (by decide) ?_
   simp only[oy,vS,seval, -List.reduceReplicate]
   rw[aC _ (by omega) (by omega)]
   exact ⟨rfl,rfl⟩
  | 3,_=>
   simp only[F5.l,vS,seval, -List.reduceReplicate]
   refine aK (by decide) ?_
   simp only[oy,vS,seval, -List.reduceReplicate]
   rw[aC _ (by omega) (by omega)]
   exact ⟨rfl,rfl⟩
  | 4,_=>
   simp only[F5.l,vS,seval, -List.reduceReplicate]
   refine aK (by decide) ?_
   simp only[oy,vS,seval, -List.reduceReplicate]
   rw[aC _ (by omega) (by omega)]
   exact ⟨rfl,rfl⟩
 ·simp only[F5.l,vS,seval, -List.reduceReplicate]
  refine aZ (by decide) ?_
  have ho:0≤qk f 5∧qk f 5≤1:=by rw[aaS];omega
  have hc:IntKind.u64.wrap (19*qk f 5)=pA f 0:=by rw[aC _ (by omega) (by omega)];rfl
  simp only[hc,vS,seval, -List.reduceReplicate]
  have c0:0≤pA f 0∧pA f 0≤19:=by rw[aaT];omega
  have c1:0≤pA f 1∧pA f 1≤1:=by rw[aaU];omega
  have c2:0≤pA f 2∧pA f 2≤1:=by rw[aaV];omega
  have c3:0≤pA f 3∧pA f 3≤1:=by rw[aaW];omega
  have c4:0≤pA f 4∧pA f 4≤1:=by rw[aaX];omega
  refine aQ 5 (fun k=>[(1,Ptr 0 0),(2,Ptr 1 0),(6,I .u64 (pA f k)),(19,I .i64 k)])
   (fun k=>[(0,⟨true,Ht f k⟩),(1,⟨true,[Sum.inl (Value.int IntKind.u64 0),Sum.inl (Value.int IntKind.u64 0),Sum.inl (Value.int IntKind.u64 0),Sum.inl (Value.int IntKind.u64 0),Sum.inl (Value.int IntKind.u64 0)]⟩)]) _ ?_ ?_ ?_
  ·simp only[Ht,gv,vS,seval, -List.reduceReplicate]
  ·intro k hk
   match k,hk with
   | 0,_=>
    simp only[Ht,gv,vS,seval, -List.reduceReplicate]
    refine aK (by decide) ?_
    simp only[oy,vS,seval, -List.reduceReplicate]
    rw[aC (f.a0+_) (by omega) (by omega),iK _ (by omega) (by omega)]
    exact ⟨⟨rfl,rfl⟩,rfl⟩
   | 1,_=>
    simp only[Ht,gv,vS,seval, -List.reduceReplicate]
    refine aK (by decide) ?_
    simp only[oy,vS,seval, -List.reduceReplicate]
    rw[aC (f.a1+_) (by omega) (by omega),iK _ (by omega) (by omega)]
    exact ⟨⟨rfl,rfl⟩,rfl⟩
   | 2,_=>
    simp only[Ht,gv,vS,seval, -List.reduceReplicate]
    refine aK (by decide) ?_
    simp only[oy,vS,seval, -List.reduceReplicate]
    rw[aC (f.a2+_) (by omega) (by omega),iK _ (by omega) (by omega)]
    exact ⟨⟨rfl,rfl⟩,rfl⟩
   | 3,_=>
    simp only[Ht,gv,vS,seval, -List.reduceReplicate]
    refine aK (by decide) ?_
    simp only[oy,vS,seval, -List.reduceReplicate]
    rw[aC (f.a3+_) (by omega) (by omega),iK _ (by omega) (by omega)]
    exact ⟨⟨rfl,rfl⟩,rfl⟩
   | 4,_=>
    simp only[Ht,gv,vS,seval, -List.reduceReplicate]
    refine aK (by decide) ?_
    simp only[oy,vS,seval, -List.reduceReplicate]
    rw[aC (f.a4+_) (by omega) (by omega),iK _ (by omega) (by omega)]
    exact ⟨⟨rfl,rfl⟩,rfl⟩
  ·simp only[Ht,gv,vS,seval, -List.reduceReplicate]
   refine aZ (by decide) ?_
   simp only[F5.l,vS,seval, -List.reduceReplicate]
def gu (g:F5):Nat→Int
 | 0=>g.a0+g.a1*2251799813685248%18446744073709551616
 | 1=>g.a1 / 8192+g.a2*274877906944%18446744073709551616
 | 2=>g.a2 / 67108864+g.a3*33554432%18446744073709551616
 | _=>g.a3 / 549755813888+g.a4*4096%18446744073709551616
def jm (W:Nat→Int) (i:Nat):Int:=W (i / 8) / 2^(i%8*8)%256
theorem MK (x b:Int) (n m:Nat) (h:n+m=64) (hn:n < 64) (N M:Int) (hN:(2:Int)^n=N) (hM:(2:Int)^m=M) (hx:0≤x) (hx':x < N):
  aV .or .u64 x (b*N%18446744073709551616)=x+b*N%18446744073709551616:=by
 have hNM:N*M=18446744073709551616:=by rw[← hN, ← hM, ← Int.pow_add,h];rfl
 have Yg:0 < M:=by rw[← hM];exact Int.pow_pos (by decide)
 have hN0:0 < N:=by rw[← hN];exact Int.pow_pos (by decide)
 have e:b*N%18446744073709551616=b%M*N:=by rw[← hNM,Int.mul_comm b N,Int.mul_emod_mul_of_pos _ _ hN0,Int.mul_comm]
 have hbm:=Int.emod_nonneg b (Int.ne_of_gt Yg)
 have hbl:=Int.emod_lt_of_pos b Yg
 have hle:b%M*N < 18446744073709551616:=by rw[← hNM,Int.mul_comm N M];exact Int.mul_lt_mul_of_pos_right hbl hN0
 rw[e, ← hN,Dr x (b%M) n hn hx (by rw[hN];exact hx') hbm (by rw[hN];exact hle)]
theorem Ds (g:F5) (h0:0≤g.a0∧g.a0 < 2251799813685248) (h1:0≤g.a1∧g.a1 < 2251799813685248) (h2:0≤g.a2∧g.a2 < 2251799813685248) (h3:0≤g.a3∧g.a3 < 2251799813685248) (h4:0≤g.a4∧g.a4 < 2251799813685248):
  ∀ j,0≤gu g j∧gu g j < 18446744073709551616
 | 0=>by simp only[gu];omega
 | 1=>by simp only[gu];omega
 | 2=>by simp only[gu];omega
 | _+3=>by simp only[gu];omega
theorem Hw (g:F5) (h0:0≤g.a0∧g.a0 < 2251799813685248) (h1:0≤g.a1∧g.a1 < 2251799813685248) (h2:0≤g.a2∧g.a2 < 2251799813685248) (h3:0≤g.a3∧g.a3 < 2251799813685248) (h4:0≤g.a4∧g.a4 < 2251799813685248):
  g.v=gu g 0+18446744073709551616*gu g 1+340282366920938463463374607431768211456*gu g 2+6277101735386680763835789423207666416102355444464034512896*gu g 3:=by
 simp only[gu,F5.v];omega
theorem kj {k:IntKind} {n m:Nat} {f:Nat→Int}:ah k n (upd (fun i=>if i < m then f i else 0) m (f m))=ah k n (fun i=>if i < m+1 then f i else 0):=by
 refine aW fun i _=> ?_
 simp only[upd]
 by_cases h:i=m
 ·subst h;simp
 ·rw[if_neg h]
  by_cases h2:i < m
  ·rw[if_pos h2,if_pos (by omega)]
  ·rw[if_neg h2,if_neg (by omega)]
theorem OH (f:F5) (hf:f.Ok):cO Tryz.prog 11 [Ag f.l] (Ag (ah .u8 32 (jm (gu (gF f))))):=by
 refine bf Tryz.func11 rfl (by kernel_rfl) (by simp[Tryz.ntmps11]) rfl rfl ?_
 simp only[F5.l,Tryz.results11,af,pP,aR,vS,seval, -List.reduceReplicate]
 refine (Hu f hf).aB ?_
 obtain ⟨_,h0,h1,h2,h3,h4⟩:=lG f hf
 generalize gF f=g at*
 have j0:=MK g.a0 g.a1 51 13 rfl (by decide) 2251799813685248 8192 rfl rfl h0.1 h0.2
 have j1:=MK (g.a1 / 8192) g.a2 38 26 rfl (by decide) 274877906944 67108864 rfl rfl (by omega) (by omega)
 have j2:=MK (g.a2 / 67108864) g.a3 25 39 rfl (by decide) 33554432 549755813888 rfl rfl (by omega) (by omega)
 have j3:=MK (g.a3 / 549755813888) g.a4 12 52 rfl (by decide) 4096 4503599627370496 rfl rfl (by omega) (by omega)
 simp only[F5.l,af,pP,aR,show jx .u64 g.a1 51=g.a1*2251799813685248%18446744073709551616 from wB _ 51 (by decide),show jx .u64 g.a2 38=g.a2*274877906944%18446744073709551616 from wB _ 38 (by decide),show jx .u64 g.a3 25=g.a3*33554432%18446744073709551616 from wB _ 25 (by decide),show jx .u64 g.a4 12=g.a4*4096%18446744073709551616 from wB _ 12 (by decide),
  show ft .u64 g.a1 13=g.a1 / 8192 from wA _ 13 (by decide),show ft .u64 g.a2 26=g.a2 / 67108864 from wA _ 26 (by decide),show ft .u64 g.a3 39=g.a3 / 549755813888 from wA _ 39 (by decide),j0,j1,j2,j3,vS,seval, -List.reduceReplicate]
 refine aQ 32 (fun k=>[(2,Ptr 1 0),(3,Ptr 33 0),(4,Ptr 35 0),(36,I .i64 k)])
  (fun k=>[(1,⟨true,ah .u8 32 (fun _=>0)⟩),(33,⟨true,ah .u64 4 (gu g)⟩),(35,⟨true,ah .u8 32 (fun i=>if i < k then jm (gu g) i else 0)⟩)]) _ ?_ ?_ ?_
 ·simp only[eG,vR,seval, -List.reduceReplicate]
  exact ⟨rfl,by simp only[Nat.not_lt_zero,if_false]⟩
 ·intro k hk
  have hw:=Ds g h0 h1 h2 h3 h4 (k / 8)
  have hm:k%8 < 8:=Nat.mod_lt _ (by decide)
  have hq:=Un k (by omega)
  have hmul:IntKind.i64.wrap (((k%8:Nat):Int)*8)=((k%8*8:Nat):Int):=by rw[wrap_i64 _ (by omega) (by omega)];omega
  have hsh:IntKind.u8.wrap (ft .u64 (gu g (k / 8)) ((k%8*8:Nat):Int))=jm (gu g) k:=by
   rw[wA _ _ (by omega),wrap_u8];rfl
  have hl4:(((k / 8:Nat):Int) < 4)=True:=fw (m:=4) (by omega)
  have Yh:((k:Int) < 32)=True:=fw (m:=32) hk
  simp only[vR,seval, -List.reduceReplicate]
  refine aK (by simp;omega) ?_
  simp only[Yh,aE .u64 4 _ (k / 8) (by omega),hq,I5,hmul,hsh,hl4,bb .u8 32 _ k hk,dX k (by omega),vR,seval, -List.reduceReplicate]
  exact ⟨by omega,by rw[kj]⟩
 ·simp only[vR,seval, -List.reduceReplicate]
  refine aZ (by decide) ?_
  simp only[vR,seval, -List.reduceReplicate]
  refine yv fun i hi=> ?_
  simp only[hi,if_true]
def bW (K U:Nat→Int):Nat→Int:=
 jm (gu (gF (dq (lC (fL K) (dL (ju U 32)) 255).x2 (iR (lC (fL K) (dL (ju U 32)) 255).z2 255))))
theorem pZ (K U:Nat→Int) (hK:By K) (hU:By U):cO Tryz.prog 5 [Ag (ah .u8 32 K),Ag (ah .u8 32 U)] (Ag (ah .u8 32 (bW K U))):=by
 have hu:(dL (ju U 32)).Ok:=uT _ fun j=>⟨((lE U hU 32).1 j).1,((lE U hU 32).1 j).2.2⟩
 have hr:=j8 (fL K) _ hu 255
 refine bf Tryz.func5 rfl (by kernel_rfl) (by simp[Tryz.ntmps5]) rfl rfl ?_
 simp only[Tryz.results5,vR,seval, -List.reduceReplicate]
 refine ⟨by kernel_rfl, ?_⟩
 refine cO.draw (Hr K hK) Tryz.JF ?_
 simp only[vR,seval, -List.reduceReplicate]
 refine cO.draw (Hs U hU) Tryz.JG ?_
 simp only[vR,seval, -List.reduceReplicate]
 refine cO.draw (J7 _ _ (OE K hK) hu) Tryz.JE ?_
 simp only[vR,seval, -List.reduceReplicate]
 refine cO.draw (OH _ (gB _ _ hr.x2 (jk _ hr.z2 255))) Tryz.JD ?_
 simp only[vR,seval, -List.reduceReplicate]
 rfl
def val (N:Nat→Int):Nat→Int
 | 0=>0
 | n+1=>val N n+N n*65536^n
def zJ (N:Nat→Int):Nat→Int
 | 0=>0
 | i+1=>(N i+zJ N i) / 65536
def Hx (N:Nat→Int) (i:Nat):Int:=(N i+zJ N i)%65536
def dV (N:Nat→Int):Nat→Int:=upd (Hx N) 0 (Hx N 0+38*zJ N 16)
def aaY (N:Nat→Int):Nat→Nat→Int
 | 0=>N
 | k+1=>dV (aaY N k)
def Hy (N:Nat→Int):Nat→Int:=aaY N 3
def Bd (N:Nat→Int):Prop:= ∀ i,0≤N i∧N i < 4611686018427387904
def ev (N:Nat→Int):Prop:= ∀ i,0≤N i∧N i < 65536
theorem zf (N:Nat→Int) (h:Bd N): ∀ i,0≤zJ N i∧zJ N i < 140737488355328
 | 0=>by simp[zJ]
 | i+1=>by
  have:=zf N h i
  have:=h i
  simp only[zJ];omega
theorem n6 (N:Nat→Int):ev (Hx N):=by
 intro i;simp only[Hx];omega
theorem zg (N:Nat→Int) (h:Bd N):Bd (dV N):=by
 intro i
 have h1:=n6 N i
 have h2:=n6 N 0
 have h3:=zf N h 16
 simp only[dV,upd];split<;>omega
theorem RY (n:Nat):(0:Int) < 65536^n:=Int.pow_pos (by decide)
theorem n7 (N:Nat→Int) (h:ev N): ∀ n,0≤val N n∧val N n < 65536^n
 | 0=>by simp[val]
 | n+1=>by
  have ih:=n7 N h n
  have hn:=h n
  have hp:=RY n
  have h1:0≤N n*65536^n:=Int.mul_nonneg hn.1 (Int.le_of_lt hp)
  have h2:N n*65536^n≤65535*65536^n:=Int.mul_le_mul_of_nonneg_right (by omega) (Int.le_of_lt hp)
  rw[val,Int.pow_succ];omega
theorem tV (N:Nat→Int): ∀ n,val N n=val (Hx N) n+zJ N n*65536^n
 | 0=>by simp[val,zJ]
 | n+1=>by
  have ih:=tV N n
  have e:N n+zJ N n=Hx N n+65536*zJ N (n+1):=by simp only[Hx,zJ];omega
  rw[val,val,ih,Int.pow_succ]
  have:zJ N (n+1)*(65536^n*65536)=(65536*zJ N (n+1))*65536^n:=by grind
  rw[this]
  have e2:N n=Hx N n+65536*zJ N (n+1) - zJ N n:=by omega
  rw[e2];grind
theorem Dt (N:Nat→Int) (i:Nat) (v:Int): ∀ n,i < n→val (upd N i v) n=val N n+(v - N i)*65536^i:=by
 have RX: ∀ n,n≤i→val (upd N i v) n=val N n:=by
  intro n
  induction n with
  | zero=>intro _;rfl
  | succ n ih=>
   intro h
   rw[val,val,ih (by omega)]
   simp only[upd,if_neg (show ¬ n=i by omega)]
 intro n
 induction n with
 | zero=>intro h;omega
 | succ n ih=>
  intro h
  rw[val,val]
  by_cases hn:n=i
  ·subst hn
   rw[RX n (Nat.le_refl n)]
   simp only[upd,if_true];grind
  ·rw[ih (by omega)]
   simp only[upd,if_neg hn];grind
theorem uU (N:Nat→Int):val (dV N) 16=val N 16 - zJ N 16*115792089237316195423570985008687907853269984665640564039457584007913129639898:=by
 rw[dV,Dt _ 0 _ 16 (by decide)]
 have:=tV N 16
 rw[show (65536:Int)^16=115792089237316195423570985008687907853269984665640564039457584007913129639936 from by decide]at this
 rw[this];simp only[Int.pow_zero,Int.mul_one];omega
theorem sL (N:Nat→Int) (h:Bd N):ev (Hy N)∧val (Hy N) 16%PP=val N 16%PP:=by
 have hp:(65536:Int)^16=115792089237316195423570985008687907853269984665640564039457584007913129639936:=by decide
 have c0:=zf N h 16
 have v0:=tV N 16
 have d0:=n7 _ (n6 N) 16
 have e0:=uU N
 have v1:=tV (dV N) 16
 have d1:=n7 _ (n6 (dV N)) 16
 have e1:=uU (dV N)
 have v2:=tV (dV (dV N)) 16
 have d2:=n7 _ (n6 (dV (dV N))) 16
 have e2:=uU (dV (dV N))
 have c1:=zf _ (zg N h) 16
 have c2:=zf _ (zg _ (zg N h)) 16
 rw[hp]at v0 d0 v1 d1 v2 d2
 have k1:zJ (dV N) 16=0∨zJ (dV N) 16=1:=by omega
 have k2:zJ (dV (dV N)) 16=0:=by omega
 refine ⟨?_, ?_⟩
 ·intro i
  show 0≤dV (dV (dV N)) i∧dV (dV (dV N)) i < 65536
  have hd:=n6 (dV (dV N)) i
  have hd0:=n6 (dV (dV N)) 0
  rw[dV,k2]
  simp only[upd];split<;>omega
 ·show val (dV (dV (dV N))) 16%PP=_
  rw[e2,e1,e0,k2]
  refine cg (q:= -2*(zJ N 16+zJ (dV N) 16)) ?_
  simp only[PP];omega
theorem mO {k:IntKind} {n m:Nat} {f g:Nat→Int}:ah k n (upd (fun i=>if i < m then f i else g i) m (f m))=ah k n (fun i=>if i < m+1 then f i else g i):=by
 refine aW fun i _=> ?_
 simp only[upd]
 by_cases h:i=m
 ·subst h;simp
 ·rw[if_neg h]
  by_cases h2:i < m
  ·rw[if_pos h2,if_pos (by omega)]
  ·rw[if_neg h2,if_neg (by omega)]
theorem iy {k:IntKind} {n:Nat} {f g:Nat→Int}:ah k n (fun i=>if i < n then f i else g i)=ah k n f:=
 aW fun i hi=>by simp only[hi,if_true]
def jz (a b:Nat→Int):Nat→Int:=Hy fun i=>a i+b i
def J9 (i:Nat):Int:=if i=0 then 130996 else 131070
def gO (a b:Nat→Int):Nat→Int:=Hy fun i=>a i+(J9 i - b i)
theorem UZ (a b:Nat→Int) (ha:ev a) (hb:ev b):Bd fun i=>a i+b i:=by
 intro i;have:=ha i;have:=hb i;simp only[];omega
theorem RZ (a b:Nat→Int) (ha:ev a) (hb:ev b):Bd fun i=>a i+(J9 i - b i):=by
 intro i;have:=ha i;have:=hb i;simp only[J9];split<;>omega
def R0 (f:Nat→Int) (x:Int) (b:Nat→Int) (i:Nat):Nat→Nat→Int
 | 0=>f
 | j+1=>upd (R0 f x b i j) (i+j) (R0 f x b i j (i+j)+x*b j)
def PI (f:Nat→Int) (x:Int) (b:Nat→Int) (i:Nat):Nat→Nat→Int
 | 0=>f
 | m+1=>upd (PI f x b i m) m (PI f x b i m m+x*b (16 - i+m))
def wR (a b:Nat→Int):Nat→Nat→Int
 | 0=>fun _=>0
 | i+1=>R0 (wR a b i) (a i) b i (16 - i)
def mW (a b:Nat→Int):Nat→Nat→Int
 | 0=>fun _=>0
 | i+1=>PI (mW a b i) (a i) b i i
theorem J' (f:Nat→Int) (x:Int) (b:Nat→Int) (i:Nat): ∀ j k,R0 f x b i j k=f k+if i≤k∧k < i+j then x*b (k - i) else 0
 | 0,k=>by simp only[R0];rw[if_neg (by omega)];omega
 | j+1,k=>by
  simp only[R0,upd]
  by_cases h:k=i+j
  ·subst h
   rw[if_pos rfl,J' f x b i j,if_neg (by omega),if_pos (by omega),show i+j - i=j from by omega];omega
  ·rw[if_neg h,J' f x b i j]
   by_cases h2:i≤k∧k < i+j
   ·rw[if_pos h2,if_pos (by omega)]
   ·rw[if_neg h2,if_neg (by omega)]
theorem Ka (f:Nat→Int) (x:Int) (b:Nat→Int) (i:Nat): ∀ m k,PI f x b i m k=f k+if k < m then x*b (16 - i+k) else 0
 | 0,k=>by simp only[PI];rw[if_neg (by omega)];omega
 | m+1,k=>by
  simp only[PI,upd]
  by_cases h:k=m
  ·subst h
   rw[if_pos rfl,Ka f x b i k,if_neg (by omega),if_pos (by omega)];omega
  ·rw[if_neg h,Ka f x b i m]
   by_cases h2:k < m
   ·rw[if_pos h2,if_pos (by omega)]
   ·rw[if_neg h2,if_neg (by omega)]
theorem WM {x y:Int} (hx:0≤x∧x < 65536) (hy:0≤y∧y < 65536):0≤x*y∧x*y≤4294836225:=
 qZ hx.1 (show x≤65535 by omega) hy.1 (show y≤65535 by omega)
theorem Yi {f:Nat→Int} {x:Int} {b:Nat→Int} {B:Int} (hx:0≤x∧x < 65536) (hb:ev b) (hf: ∀ k,0≤f k∧f k≤B) (i j k:Nat):0≤R0 f x b i j k∧R0 f x b i j k≤B+4294836225:=by
 rw[J']
 have:=hf k
 have:=WM hx (hb (k - i))
 split<;>omega
theorem Yj {f:Nat→Int} {x:Int} {b:Nat→Int} {B:Int} (hx:0≤x∧x < 65536) (hb:ev b) (hf: ∀ k,0≤f k∧f k≤B) (i j k:Nat):0≤PI f x b i j k∧PI f x b i j k≤B+4294836225:=by
 rw[Ka]
 have:=hf k
 have:=WM hx (hb (16 - i+k))
 split<;>omega
theorem ML (a b:Nat→Int) (ha:ev a) (hb:ev b): ∀ i k,0≤wR a b i k∧wR a b i k≤i*4294836225
 | 0,k=>by simp[wR]
 | i+1,k=>by
  have:=Yi (ha i) hb (ML a b ha hb i) i (16 - i) k
  simp only[wR];omega
theorem Hz (a b:Nat→Int) (ha:ev a) (hb:ev b): ∀ i k,0≤mW a b i k∧mW a b i k≤i*4294836225
 | 0,k=>by simp[mW]
 | i+1,k=>by
  have:=Yj (ha i) hb (Hz a b ha hb i) i i k
  simp only[mW];omega
def zh (a b:Nat→Int) (k:Nat):Int:=wR a b 16 k+38*mW a b 16 k
theorem OI (a b:Nat→Int) (ha:ev a) (hb:ev b):Bd (zh a b):=by
 intro i
 have:=ML a b ha hb 16 i
 have:=Hz a b ha hb 16 i
 simp only[zh];omega
def dh (a b:Nat→Int):Nat→Int:=Hy (zh a b)
theorem Cb (N:Nat→Int) (n:Nat):val N (n+1)=val N n+N n*65536^n:=rfl
theorem MN (f:Nat→Int) (x:Int) (b:Nat→Int) (i:Nat) (hi:i < 16): ∀ j,i+j≤16→val (R0 f x b i j) 16=val f 16+x*65536^i*val b j
 | 0,_=>by simp only[R0,val];omega
 | j+1,h=>by
  rw[R0,Dt _ _ _ 16 (by omega),MN f x b i hi j (by omega),Cb b j,Int.pow_add];grind
theorem MO (f:Nat→Int) (x:Int) (b:Nat→Int) (i:Nat) (hi:i < 16): ∀ m,m≤i→65536^16*val (PI f x b i m) 16+x*65536^i*val b (16 - i)=65536^16*val f 16+x*65536^i*val b (16 - i+m)
 | 0,_=>by simp only[PI,Nat.add_zero]
 | m+1,h=>by
  have ih:=MO f x b i hi m (by omega)
  have hp:(65536:Int)^16=65536^i*65536^(16 - i):=by rw[← Int.pow_add,show i+(16 - i)=16 from by omega]
  rw[PI,Dt _ _ _ 16 (by omega),show 16 - i+(m+1)=(16 - i+m)+1 from by omega,Cb b (16 - i+m),Int.pow_add]
  generalize val (PI f x b i m) 16=v at*
  rw[hp]at ih ⊢
  grind
theorem HA (a b:Nat→Int): ∀ i,i≤16→val (wR a b i) 16+65536^16*val (mW a b i) 16=val a i*val b 16
 | 0,_=>by
  have h: ∀ n,val (fun _=>0) n=0:=by
   intro n;induction n with
   | zero=>rfl
   | succ n ih=>rw[val,ih];omega
  simp only[wR,mW,h,val];omega
 | i+1,h=>by
  have ih:=HA a b i (by omega)
  have h1:=MN (wR a b i) (a i) b i (by omega) (16 - i) (by omega)
  have h2:=MO (mW a b i) (a i) b i (by omega) i (Nat.le_refl i)
  rw[show 16 - i+i=16 from by omega]at h2
  rw[wR,mW,Cb a i,h1]
  grind
theorem val_add (a b:Nat→Int): ∀ n,val (fun i=>a i+b i) n=val a n+val b n
 | 0=>by simp[val]
 | n+1=>by rw[val,val,val,val_add a b n];grind
theorem HB (c:Int) (a:Nat→Int): ∀ n,val (fun i=>c*a i) n=c*val a n
 | 0=>by simp[val]
 | n+1=>by rw[val,val,HB c a n];grind
theorem val_sub (a b:Nat→Int): ∀ n,val (fun i=>a i - b i) n=val a n - val b n
 | 0=>by simp[val]
 | n+1=>by rw[val,val,val,val_sub a b n];grind
theorem l6 (a b:Nat→Int) (ha:ev a) (hb:ev b):ev (dh a b)∧val (dh a b) 16%PP=val a 16*val b 16%PP:=by
 obtain ⟨h1,h2⟩:=sL _ (OI a b ha hb)
 refine ⟨h1, ?_⟩
 rw[dh,h2]
 have hp:=HA a b 16 (Nat.le_refl 16)
 have e:val (zh a b) 16=val (wR a b 16) 16+38*val (mW a b 16) 16:=by
  rw[show zh a b=fun k=>wR a b 16 k+(fun k=>38*mW a b 16 k) k from rfl,val_add,HB]
 rw[e, ← hp]
 refine cg (q:= -2*val (mW a b 16) 16) ?_
 rw[show (65536:Int)^16=115792089237316195423570985008687907853269984665640564039457584007913129639936 from by decide]
 simp only[PP];omega
theorem sM (a b:Nat→Int) (ha:ev a) (hb:ev b):ev (jz a b)∧val (jz a b) 16%PP=(val a 16+val b 16)%PP:=by
 obtain ⟨h1,h2⟩:=sL _ (UZ a b ha hb)
 exact ⟨h1,by rw[jz,h2,val_add]⟩
theorem pB (a b:Nat→Int) (ha:ev a) (hb:ev b):ev (gO a b)∧val (gO a b) 16%PP=(val a 16 - val b 16)%PP:=by
 obtain ⟨h1,h2⟩:=sL _ (RZ a b ha hb)
 refine ⟨h1, ?_⟩
 rw[gO,h2,show (fun i=>a i+(J9 i - b i))=fun i=>a i+(fun i=>J9 i - b i) i from rfl,val_add,val_sub]
 refine cg (q:=4) ?_
 have:val J9 16=4*PP:=by simp[val,J9,PP]
 omega
theorem Wh (n m:Nat) (h:n+m < 9223372036854775807):IntKind.i64.wrap ((n:Int)+(m:Int))=((n+m:Nat):Int):=wrap_i64 _ (by omega) (by omega)
def R64 (a b c d:Nat→Int):List SV:=ah .u64 16 a++(ah .u64 16 b++(ah .u64 16 c++ah .u64 16 d))
theorem aH (n:Nat) (k:IntKind) (c:Int):List.replicate n (Sum.inl (Value.int k c):SV)=ah k n (fun _=>c):=by
 rw[← aR,List.map_replicate]
def zN:Nat→Int:=fun _=>0
theorem cM {a b:Nat→Int} (ha:ev a) (hb:ev b):ev (jz a b):=(sM a b ha hb).1
theorem cE {a b:Nat→Int} (ha:ev a) (hb:ev b):ev (gO a b):=(pB a b ha hb).1
theorem bq {a b:Nat→Int} (ha:ev a) (hb:ev b):ev (dh a b):=(l6 a b ha hb).1
def R1 (a b c d:Nat→Int):Nat→Int:=jz (dh (gO c d) (jz a b)) (dh (jz c d) (gO a b))
def R2 (a b c d:Nat→Int):Nat→Int:=gO (dh (gO c d) (jz a b)) (dh (jz c d) (gO a b))
def Yk (x z:Nat→Int):Nat→Int:=gO (dh (jz x z) (jz x z)) (dh (gO x z) (gO x z))
def cN:Nat→Int:=upd (upd (fun _=>0) 0 56129) 1 1
def Kc:Nat→Int:=upd (fun _=>0) 0 1
theorem Du:ev cN:=by intro i;simp only[cN,upd];split<;>(try split)<;>omega
theorem zj:ev Kc:=by intro i;simp only[Kc,upd];split<;>omega
theorem Yl:ev zN:=by intro i;simp only[zN];omega
def U0 (x z:Nat→Int):Nat→Int:=dh (dh (jz x z) (jz x z)) (dh (gO x z) (gO x z))
def U1 (x z:Nat→Int):Nat→Int:=dh (Yk x z) (jz (dh (jz x z) (jz x z)) (dh cN (Yk x z)))
def tW (z:Nat→Int):Nat→Nat→Int
 | 0=>Kc
 | n+1=>if n=252∨n=250 then dh (tW z n) (tW z n) else dh (dh (tW z n) (tW z n)) z
theorem uV (z:Nat→Int) (hz:ev z): ∀ n,ev (tW z n)
 | 0=>zj
 | n+1=>by
  have ih:=uV z hz n
  rw[tW];split
  ·exact bq ih ih
  ·exact bq (bq ih ih) hz
structure N4 where
 a:Nat→Int
 b:Nat→Int
 c:Nat→Int
 d:Nat→Int
def N4.l (r:N4):List SV:=R64 r.a r.b r.c r.d
structure N4.ev (r:N4):Prop where
 a:Proofs.YtbipdofobgabhaaGreatDoor.ev r.a
 b:Proofs.YtbipdofobgabhaaGreatDoor.ev r.b
 c:Proofs.YtbipdofobgabhaaGreatDoor.ev r.c
 d:Proofs.YtbipdofobgabhaaGreatDoor.ev r.d
def R3 (s:Bool) (u:Nat→Int) (r:N4):N4:=
 if s then ⟨dh (R1 r.a r.b r.c r.d) (R1 r.a r.b r.c r.d),dh u (dh (R2 r.a r.b r.c r.d) (R2 r.a r.b r.c r.d)),U0 r.c r.d,U1 r.c r.d⟩
 else ⟨U0 r.a r.b,U1 r.a r.b,dh (R1 r.a r.b r.c r.d) (R1 r.a r.b r.c r.d),dh u (dh (R2 r.a r.b r.c r.d) (R2 r.a r.b r.c r.d))⟩
theorem R5 {a b c d:Nat→Int} (ha:ev a) (hb:ev b) (hc:ev c) (hd:ev d):ev (R1 a b c d):=
 cM (bq (cE hc hd) (cM ha hb)) (bq (cM hc hd) (cE ha hb))
theorem R6 {a b c d:Nat→Int} (ha:ev a) (hb:ev b) (hc:ev c) (hd:ev d):ev (R2 a b c d):=
 cE (bq (cE hc hd) (cM ha hb)) (bq (cM hc hd) (cE ha hb))
theorem HC {x z:Nat→Int} (hx:ev x) (hz:ev z):ev (Yk x z):=
 cE (bq (cM hx hz) (cM hx hz)) (bq (cE hx hz) (cE hx hz))
theorem HD {x z:Nat→Int} (hx:ev x) (hz:ev z):ev (U0 x z):=
 bq (bq (cM hx hz) (cM hx hz)) (bq (cE hx hz) (cE hx hz))
theorem HE {x z:Nat→Int} (hx:ev x) (hz:ev z):ev (U1 x z):=
 bq (HC hx hz) (cM (bq (cM hx hz) (cM hx hz)) (bq Du (HC hx hz)))
theorem OJ (s:Bool) (u:Nat→Int) (r:N4) (hu:ev u) (h:r.ev):(R3 s u r).ev:=by
 obtain ⟨ha,hb,hc,hd⟩:=h
 have hx:=R5 ha hb hc hd
 have hz:=R6 ha hb hc hd
 cases s
 ·exact ⟨HD ha hb,HE ha hb,bq hx hx,bq hu (bq hz hz)⟩
 ·exact ⟨bq hx hx,bq hu (bq hz hz),HD hc hd,HE hc hd⟩
def HF (K u:Nat→Int):Nat→N4
 | 0=>⟨Kc,zN,u,Kc⟩
 | n+1=>R3 (oD K (254 - n)) u (HF K u n)
theorem uW (K u:Nat→Int) (hu:ev u): ∀ n,(HF K u n).ev
 | 0=>⟨zj,Yl,hu,zj⟩
 | n+1=>OJ _ _ _ hu (uW K u hu n)
def tX (i:Nat):Int:=if i=0 then 65517 else if i=15 then 32767 else 65535
def MP (n:Nat→Int):Nat→Int
 | 0=>0
 | i+1=>1 - (n i+65536 - tX i - MP n i) / 65536
def OL (n:Nat→Int) (i:Nat):Int:=(n i+65536 - tX i - MP n i)%65536
def zk (n:Nat→Int):Nat→Int:=if MP n 16=1 then n else OL n
theorem R7 (i:Nat):32767≤tX i∧tX i≤65535:=by simp only[tX];split<;>(try split)<;>omega
theorem R8 (n:Nat→Int) (h:ev n): ∀ i,0≤MP n i∧MP n i≤1
 | 0=>by simp[MP]
 | i+1=>by
  have:=R8 n h i
  have:=h i
  have:=R7 i
  simp only[MP];omega
theorem MQ (n:Nat→Int): ∀ k,val (OL n) k=val n k - val tX k+MP n k*65536^k
 | 0=>by simp[val,MP]
 | k+1=>by
  have ih:=MQ n k
  have e:OL n k=n k - tX k - MP n k+65536*MP n (k+1):=by simp only[OL,MP];omega
  rw[Cb,Cb,Cb,ih,Int.pow_succ,e]
  grind
theorem n8 (n:Nat→Int) (h:ev n):ev (zk n)∧val (zk n) 16=if val n 16 < PP then val n 16 else val n 16 - PP:=by
 have hb:=R8 n h 16
 have hv:=MQ n 16
 have hp:val tX 16=PP:=by simp[val,tX,PP]
 have hd:ev (OL n):=by intro i;simp only[OL];omega
 have hm:=n7 _ hd 16
 have hn:=n7 _ h 16
 have Zg:(65536:Int)^16=115792089237316195423570985008687907853269984665640564039457584007913129639936:=by decide
 rw[hp,Zg]at hv
 rw[Zg]at hm hn
 have hPP:PP=57896044618658097711785492504343953926634992332820282019728792003956564819949:=rfl
 simp only[zk]
 by_cases hc:MP n 16=1
 ·rw[if_pos hc];rw[hc]at hv
  exact ⟨h,by rw[if_pos (by omega)]⟩
 ·have hc0:MP n 16=0:=by omega
  rw[if_neg hc];rw[hc0]at hv
  exact ⟨hd,by rw[if_neg (by omega)];omega⟩
def TX (K:Nat→Int):Nat→Nat→Int
 | 0=>fun _=>0
 | n+1=>upd (TX K n) (n / 2) (TX K n (n / 2)+(if n%2=0 then K n else 256*K n))
theorem Dv (K:Nat→Int): ∀ n j,TX K n j=(if 2*j < n then K (2*j) else 0)+(if 2*j+1 < n then 256*K (2*j+1) else 0)
 | 0,j=>by simp[TX]
 | n+1,j=>by
  simp only[TX,upd]
  by_cases hj:j=n / 2
  ·subst hj
   rw[if_pos rfl,Dv K n]
   by_cases hp:n%2=0
   ·have e:2*(n / 2)=n:=by omega
    rw[if_pos hp,e,if_neg (by omega),if_neg (by omega),if_pos (by omega),if_neg (by omega)];omega
   ·have e:2*(n / 2)+1=n:=by omega
    rw[if_neg hp,e,if_pos (by omega),if_neg (by omega),if_pos (by omega),if_pos (by omega)];omega
  ·rw[if_neg hj,Dv K n]
   have a1:(2*j < n)=(2*j < n+1):=by apply propext;omega
   have a2:(2*j+1 < n)=(2*j+1 < n+1):=by apply propext;omega
   simp only[a1,a2]
theorem U2 (K:Nat→Int) (hK:By K) (n:Nat):ev (TX K n):=by
 intro j
 have h1:=hK (2*j)
 have h2:=hK (2*j+1)
 rw[Dv];split<;>split<;>omega
def oE (n:Nat→Int):Nat→Nat→Int
 | 0=>n
 | k+1=>zk (oE n k)
theorem qa (n:Nat→Int) (h:ev n): ∀ k,ev (oE n k)
 | 0=>h
 | k+1=>(n8 _ (qa n h k)).1
def aaZ (m:Nat→Int) (i:Nat):Int:=(if i%2=1 then m (i / 2) / 256 else m (i / 2))%256
def Kd (U:Nat→Int):Nat→Int:=upd U 31 (U 31%128)
theorem U3 (U:Nat→Int) (h:By U):By (Kd U):=by
 intro i
 have:=h i
 have:=h 31
 simp only[Kd,upd];split<;>omega
def adi (K U:Nat→Int):Nat→Int:=
 aaZ (oE (dh (HF (fL K) (TX (Kd U) 32) 255).a (tW (HF (fL K) (TX (Kd U) 32) 255).b 255)) 3)
def kF (f:F5) (n:Nat→Int):Prop:=f.v%PP=val n 16%PP
theorem U4 {a b x y:Int} (h:a%PP=x%PP) (k:b%PP=y%PP):a*b%PP=x*y%PP:=by rw[Int.mul_emod,h,k, ← Int.mul_emod]
theorem aa0 {a b x y:Int} (h:a%PP=x%PP) (k:b%PP=y%PP):(a+b)%PP=(x+y)%PP:=by rw[Int.add_emod,h,k, ← Int.add_emod]
theorem aa1 {a b x y:Int} (h:a%PP=x%PP) (k:b%PP=y%PP):(a - b)%PP=(x - y)%PP:=by rw[Int.sub_emod,h,k, ← Int.sub_emod]
theorem kF.mul {f g:F5} {n m:Nat→Int} (h:kF f n) (k:kF g m) (hn:ev n) (hm:ev m):kF (dq f g) (dh n m):=by
 rw[kF,Dp,(l6 n m hn hm).2];exact U4 h k
theorem kF.aa2 {f g:F5} {n m:Nat→Int} (h:kF f n) (k:kF g m) (hn:ev n) (hm:ev m):kF (dq f g) (dh m n):=by
 rw[kF,Dp,(l6 m n hm hn).2,Int.mul_comm];exact U4 k h
theorem kF.add {f g:F5} {n m:Nat→Int} (h:kF f n) (k:kF g m) (hn:ev n) (hm:ev m):kF (nY f g) (jz n m):=by
 rw[kF,nY,J4,(sM n m hn hm).2];exact aa0 h k
theorem kF.adj {f g:F5} {n m:Nat→Int} (h:kF f n) (k:kF g m) (hn:ev n) (hm:ev m):kF (nY f g) (jz m n):=by
 rw[kF,nY,J4,(sM m n hm hn).2,Int.add_comm];exact aa0 k h
theorem kF.sub {f g:F5} {n m:Nat→Int} (h:kF f n) (k:kF g m) (hn:ev n) (hm:ev m):kF (n3 f g) (gO n m):=by
 rw[kF,n3,J5,(pB n m hn hm).2];exact aa1 h k
theorem kF.sqc {f g:F5} {n m:Nat→Int} (h:kF f n) (k:kF g m) (hn:ev n) (hm:ev m):kF (dq (n3 f g) (n3 f g)) (dh (gO m n) (gO m n)):=by
 have hd:=cE hm hn
 have e1:(n3 f g).v%PP=(val n 16 - val m 16)%PP:=by rw[n3,J5];exact aa1 h k
 have e2:=(pB m n hm hn).2
 rw[kF,Dp,(l6 _ _ hd hd).2,U4 e1 e1,U4 e2 e2]
 congr 1;grind
structure Rel (r:R4) (q:N4):Prop where
 a:kF r.x2 q.a
 b:kF r.z2 q.b
 c:kF r.x3 q.c
 d:kF r.z3 q.d
theorem c_eq:kF F5.c cN:=by
 rw[kF];simp[F5.v,F5.c,val,cN,upd]
theorem one_eq:kF F5.one Kc:=by
 rw[kF];simp[F5.v,F5.one,val,Kc,upd]
theorem zero_eq:kF F5.zero zN:=by
 rw[kF];simp[F5.v,F5.zero,val,zN]
theorem Dw {x z:F5} {n m:Nat→Int} (hx:kF x n) (hz:kF z m) (hn:ev n) (hm:ev m):
  kF (dq (dq (nY x z) (nY x z)) (dq (n3 x z) (n3 x z))) (U0 n m)∧
  kF (dq (n3 (dq (nY x z) (nY x z)) (dq (n3 x z) (n3 x z))) (nY (dq (nY x z) (nY x z)) (dq F5.c (n3 (dq (nY x z) (nY x z)) (dq (n3 x z) (n3 x z)))))) (U1 n m):=by
 have h1:=cM hn hm
 have h2:=cE hn hm
 have p:=hx.add hz hn hm
 have s:=hx.sub hz hn hm
 have pp:=p.mul p h1 h1
 have ss:=s.mul s h2 h2
 have d1:=bq h1 h1
 have d2:=bq h2 h2
 have e:=pp.sub ss d1 d2
 have de:=cE d1 d2
 refine ⟨pp.mul ss d1 d2,e.mul (pp.add (c_eq.mul e Du de) d1 (bq Du de)) de (cM d1 (bq Du de))⟩
theorem step_eq (s:Bool) {r:R4} {q:N4} {u:F5} {n:Nat→Int} (h:Rel r q) (hq:q.ev) (hu:kF u n) (hn:ev n):Rel (TW s (n5 (TW s r) u)) (R3 s n q):=by
 obtain ⟨ha,hb,hc,hd⟩:=h
 obtain ⟨da,db,dc,dd⟩:=hq
 have P:=cM da db
 have M:=cE da db
 have P':=cM dc dd
 have M':=cE dc dd
 have T1:=bq M' P
 have T2:=bq P' M
 cases s
 ·have t1:=(hc.sub hd dc dd).mul (ha.add hb da db) M' P
  have t2:=(hc.add hd dc dd).mul (ha.sub hb da db) P' M
  have x:=t1.add t2 T1 T2
  have z:=t1.sub t2 T1 T2
  have dx:=cM T1 T2
  have dz:=cE T1 T2
  exact ⟨(Dw ha hb da db).1,(Dw ha hb da db).2,x.mul x dx dx,hu.mul (z.mul z dz dz) hn (bq dz dz)⟩
 ·have t2:=(ha.sub hb da db).aa2 (hc.add hd dc dd) M P'
  have t1:=(ha.add hb da db).aa2 (hc.sub hd dc dd) P M'
  have x:=t2.adj t1 T2 T1
  have zz:=t2.sqc t1 T2 T1
  have dx:=cM T1 T2
  have dz:=cE T1 T2
  exact ⟨x.mul x dx dx,hu.mul zz hn (bq dz dz),(Dw hc hd dc dd).1,(Dw hc hd dc dd).2⟩
theorem R9 (K:Nat→Int) {u:F5} {n:Nat→Int} (hu:kF u n) (hn:ev n): ∀ k,Rel (lC K u k) (HF K n k)
 | 0=>⟨one_eq,zero_eq,hu,one_eq⟩
 | k+1=>step_eq _ (R9 K hu hn k) (uW K n hn k) hu hn
theorem inv_eq {f:F5} {n:Nat→Int} (h:kF f n) (hn:ev n): ∀ k,kF (iR f k) (tW n k)
 | 0=>one_eq
 | k+1=>by
  have ih:=inv_eq h hn k
  have hd:=uV n hn k
  have sq:=ih.mul ih hd hd
  rw[iR,tW]
  split
  ·exact sq
  ·exact sq.mul h (bq hd hd) hn
theorem OM (n:Nat→Int) (h:ev n):val (oE n 3) 16=val n 16%PP:=by
 have Zg:(65536:Int)^16=115792089237316195423570985008687907853269984665640564039457584007913129639936:=by decide
 have hv:=n7 _ h 16
 have s1:=(n8 _ h).2
 have s2:=(n8 _ (qa n h 1)).2
 have s3:=(n8 _ (qa n h 2)).2
 have e1:oE n 1=zk n:=rfl
 have e2:oE n 2=zk (oE n 1):=rfl
 have e3:oE n 3=zk (oE n 2):=rfl
 rw[← e1]at s1
 rw[← e2]at s2
 rw[← e3]at s3
 rw[Zg]at hv
 have hPP:PP=57896044618658097711785492504343953926634992332820282019728792003956564819949:=rfl
 generalize val (oE n 3) 16=v3 at*
 generalize val (oE n 2) 16=v2 at*
 generalize val (oE n 1) 16=v1 at*
 generalize val n 16=v at*
 clear e1 e2 e3
 rw[hPP]at*
 split at s1<;>split at s2<;>split at s3<;>omega
theorem OO (U:Nat→Int) (hU:By U):kF (dL (ju U 32)) (TX (Kd U) 32):=by
 have h0:ju U 32 0=U 0+256*U 1+65536*U 2+16777216*U 3+4294967296*U 4+1099511627776*U 5+281474976710656*U 6+72057594037927936*U 7:=by
  simp[ju,upd];omega
 have h1:ju U 32 1=U 8+256*U 9+65536*U 10+16777216*U 11+4294967296*U 12+1099511627776*U 13+281474976710656*U 14+72057594037927936*U 15:=by
  simp[ju,upd];omega
 have h2:ju U 32 2=U 16+256*U 17+65536*U 18+16777216*U 19+4294967296*U 20+1099511627776*U 21+281474976710656*U 22+72057594037927936*U 23:=by
  simp[ju,upd];omega
 have h3:ju U 32 3=U 24+256*U 25+65536*U 26+16777216*U 27+4294967296*U 28+1099511627776*U 29+281474976710656*U 30+72057594037927936*U 31:=by
  simp[ju,upd];omega
 have b:=(lE U hU 32).1
 have b0:=b 0
 have b1:=b 1
 have b2:=b 2
 have b3:=b 3
 have hv:(dL (ju U 32)).v=ju U 32 0+18446744073709551616*ju U 32 1+340282366920938463463374607431768211456*ju U 32 2+6277101735386680763835789423207666416102355444464034512896*(ju U 32 3%9223372036854775808):=by
  simp only[dL,F5.v];omega
 have ht:ju U 32 3%9223372036854775808=U 24+256*U 25+65536*U 26+16777216*U 27+4294967296*U 28+1099511627776*U 29+281474976710656*U 30+72057594037927936*(U 31%128):=by
  have:=hU 24
  have:=hU 25
  have:=hU 26
  have:=hU 27
  have:=hU 28
  have:=hU 29
  have:=hU 30
  have:=hU 31
  rw[h3];omega
 have hd:val (TX (Kd U) 32) 16=(dL (ju U 32)).v:=by
  rw[hv,ht,h0,h1,h2]
  simp[val,Dv,Kd,upd]
  omega
 rw[kF,hd]
theorem words_eq (W m:Nat→Int) (hW: ∀ j,0≤W j∧W j < 18446744073709551616) (hm:ev m)
  (h:W 0+18446744073709551616*W 1+340282366920938463463374607431768211456*W 2+6277101735386680763835789423207666416102355444464034512896*W 3=val m 16):
  (W 0=m 0+65536*m 1+4294967296*m 2+281474976710656*m 3)∧(W 1=m 4+65536*m 5+4294967296*m 6+281474976710656*m 7)∧
  (W 2=m 8+65536*m 9+4294967296*m 10+281474976710656*m 11)∧(W 3=m 12+65536*m 13+4294967296*m 14+281474976710656*m 15):=by
 have e:val m 16=(m 0+65536*m 1+4294967296*m 2+281474976710656*m 3)+18446744073709551616*(m 4+65536*m 5+4294967296*m 6+281474976710656*m 7)+340282366920938463463374607431768211456*(m 8+65536*m 9+4294967296*m 10+281474976710656*m 11)+6277101735386680763835789423207666416102355444464034512896*(m 12+65536*m 13+4294967296*m 14+281474976710656*m 15):=by
  simp[val];omega
 rw[e]at h
 have w0:=hW 0
 have w1:=hW 1
 have w2:=hW 2
 have w3:=hW 3
 have q: ∀ a b c d:Nat,0≤m a+65536*m b+4294967296*m c+281474976710656*m d∧m a+65536*m b+4294967296*m c+281474976710656*m d < 18446744073709551616:=by
  intro a b c d
  have:=hm a
  have:=hm b
  have:=hm c
  have:=hm d
  omega
 have q0:=q 0 1 2 3
 have q1:=q 4 5 6 7
 have q2:=q 8 9 10 11
 have q3:=q 12 13 14 15
 generalize m 0+65536*m 1+4294967296*m 2+281474976710656*m 3=d0 at*
 generalize m 4+65536*m 5+4294967296*m 6+281474976710656*m 7=d1 at*
 generalize m 8+65536*m 9+4294967296*m 10+281474976710656*m 11=d2 at*
 generalize m 12+65536*m 13+4294967296*m 14+281474976710656*m 15=d3 at*
 clear e hm hW
 omega
theorem xh (w a b c d:Int) (ha:0≤a∧a < 65536) (hb:0≤b∧b < 65536) (hc:0≤c∧c < 65536) (hd:0≤d∧d < 65536) (h:w=a+65536*b+4294967296*c+281474976710656*d):
  w / 2^0%256=a%256∧w / 2^8%256=a / 256%256∧w / 2^16%256=b%256∧w / 2^24%256=b / 256%256∧
  w / 2^32%256=c%256∧w / 2^40%256=c / 256%256∧w / 2^48%256=d%256∧w / 2^56%256=d / 256%256:=by
 simp only[Int.reducePow]
 subst h
 refine ⟨?_, ?_, ?_, ?_, ?_, ?_, ?_, ?_⟩<;>omega
theorem bytes_eq (W m:Nat→Int) (hW: ∀ j,0≤W j∧W j < 18446744073709551616) (hm:ev m)
  (h:W 0+18446744073709551616*W 1+340282366920938463463374607431768211456*W 2+6277101735386680763835789423207666416102355444464034512896*W 3=val m 16):
  ∀ i,i < 32→jm W i=aaZ m i:=by
 obtain ⟨e0,e1,e2,e3⟩:=words_eq W m hW hm h
 have b0:=xh _ _ _ _ _ (hm 0) (hm 1) (hm 2) (hm 3) e0
 have b1:=xh _ _ _ _ _ (hm 4) (hm 5) (hm 6) (hm 7) e1
 have b2:=xh _ _ _ _ _ (hm 8) (hm 9) (hm 10) (hm 11) e2
 have b3:=xh _ _ _ _ _ (hm 12) (hm 13) (hm 14) (hm 15) e3
 intro i hi
 match i,hi with
 | 0,_=>exact b0.1
 | 1,_=>exact b0.2.1
 | 2,_=>exact b0.2.2.1
 | 3,_=>exact b0.2.2.2.1
 | 4,_=>exact b0.2.2.2.2.1
 | 5,_=>exact b0.2.2.2.2.2.1
 | 6,_=>exact b0.2.2.2.2.2.2.1
 | 7,_=>exact b0.2.2.2.2.2.2.2
 | 8,_=>exact b1.1
 | 9,_=>exact b1.2.1
 | 10,_=>exact b1.2.2.1
 | 11,_=>exact b1.2.2.2.1
 | 12,_=>exact b1.2.2.2.2.1
 | 13,_=>exact b1.2.2.2.2.2.1
 | 14,_=>exact b1.2.2.2.2.2.2.1
 | 15,_=>exact b1.2.2.2.2.2.2.2
 | 16,_=>exact b2.1
 | 17,_=>exact b2.2.1
 | 18,_=>exact b2.2.2.1
 | 19,_=>exact b2.2.2.2.1
 | 20,_=>exact b2.2.2.2.2.1
 | 21,_=>exact b2.2.2.2.2.2.1
 | 22,_=>exact b2.2.2.2.2.2.2.1
 | 23,_=>exact b2.2.2.2.2.2.2.2
 | 24,_=>exact b3.1
 | 25,_=>exact b3.2.1
 | 26,_=>exact b3.2.2.1
 | 27,_=>exact b3.2.2.2.1
 | 28,_=>exact b3.2.2.2.2.1
 | 29,_=>exact b3.2.2.2.2.2.1
 | 30,_=>exact b3.2.2.2.2.2.2.1
 | 31,_=>exact b3.2.2.2.2.2.2.2
 | n+32,h=>omega
theorem same (K U:Nat→Int) (hU:By U):ah .u8 32 (bW K U)=ah .u8 32 (adi K U):=by
 refine aW fun i hi=> ?_
 have hu:(dL (ju U 32)).Ok:=uT _ fun j=>⟨((lE U hU 32).1 j).1,((lE U hU 32).1 j).2.2⟩
 have hn:=U2 _ (U3 U hU) 32
 have hs:=OO U hU
 have hr:=j8 (fL K) _ hu 255
 have hq:=uW (fL K) _ hn 255
 have hl:=R9 (fL K) hs hn 255
 have hi5:=inv_eq hl.b hq.b 255
 have hf:=uV _ hq.b 255
 have hx:=hl.a.mul hi5 hq.a hf
 have ok:=gB _ _ hr.x2 (jk _ hr.z2 255)
 obtain ⟨hv,g0,g1,g2,g3,g4⟩:=lG _ ok
 have hd:=bq hq.a hf
 have hw:=Hw _ g0 g1 g2 g3 g4
 exact bytes_eq _ _ (Ds _ g0 g1 g2 g3 g4) (qa _ hd 3) (by rw[← hw,hv,OM _ hd];exact hx) i hi
theorem eB (K U:Nat→Int):By (bW K U):=by
 intro i;simp only[bW,jm];omega
def wC:Nat→Int:=upd (fun _=>0) 0 9
theorem Sb:By wC:=by
 intro i;simp only[wC,upd];split<;>omega
def iT (k:Nat→Int):Nat→Int:=bW k wC
theorem tY (k:Nat→Int) (hk:By k):cO Tryz.prog 10 [Ag (ah .u8 32 k)] (Ag (ah .u8 32 (iT k))):=by
 refine bf Tryz.func10 rfl (by kernel_rfl) (by simp[Tryz.ntmps10]) rfl rfl ?_
 simp only[Tryz.results10,vS,seval, -List.reduceReplicate]
 have e:splice (ah .u8 32 fun _=>0) 0 [Sum.inl (Value.int .u8 9)]=ah .u8 32 wC:=bb .u8 32 _ 0 (by decide) 9
 simp only[aR,aH,e,vR,seval, -List.reduceReplicate]
 refine (pZ k wC hk Sb).aB ?_
 simp only[vR,seval, -List.reduceReplicate]
 rfl
def Sc:aT:=
 let e0:aT:= .cons 4 .nil .nil
 let e1:aT:= .cons 3 e0 .nil
 let e2:aT:= .cons 0 e1 .nil
 let e3:aT:= .cons 2 e1 .nil
 let e4:aT:= .cons 0 e3 (.cons 2 e2 .nil)
 let e5:aT:= .cons 1 e3 .nil
 let e6:aT:= .cons 0 e5 (.cons 1 e4 .nil)
 e6
def Sd:aT:=
 let e0:aT:= .cons 8 .nil .nil
 let e1:aT:= .cons 7 e0 .nil
 let e2:aT:= .cons 6 e1 .nil
 let e3:aT:= .cons 5 e2 .nil
 let e4:aT:= .cons 0 e3 .nil
 let e5:aT:= .cons 4 e3 .nil
 let e6:aT:= .cons 0 e5 (.cons 4 e4 .nil)
 let e7:aT:= .cons 2 e5 .nil
 let e8:aT:= .cons 0 e7 (.cons 2 e6 .nil)
 let e9:aT:= .cons 1 e7 .nil
 let X7:aT:= .cons 0 e9 (.cons 1 e8 .nil)
 let X8:aT:= .cons 3 e5 .nil
 let X9:aT:= .cons 0 X8 (.cons 3 e6 .nil)
 let WK:aT:= .cons 2 X8 (.cons 3 e7 .nil)
 let Ya:aT:= .cons 0 WK (.cons 2 X9 (.cons 3 e8 .nil))
 let Yb:aT:= .cons 1 WK (.cons 3 e9 .nil)
 let Yc:aT:= .cons 0 Yb (.cons 1 Ya (.cons 3 X7 .nil))
 Yc
def gP (root key:Nat→Int) (skip room:Int):St:={ nC with peer:=true,root:=root,rq:=key,skip:=skip,room:=room }
def iH (root key:Nat→Int) (skip room:Int):St:={ nC with own:=true,root:=root,priv:=key,aF:=iT key,skip:=skip,room:=room }
def gw (role:Int) (root key:Nat→Int) (skip room:Int):St:=
 if skip < 0∨1000 < skip∨room < 0∨1000 < room then nC else if role=0 then gP root key skip room else if role=1 then iH root key skip room else nC
def pC (s:St) (seed:Nat→Int):St:=
 { s with priv:=seed,aF:=iT seed,own:=true,has:=true,pn:=s.ns,ns:=0,se:=IntKind.u32.wrap (s.se+1),root:=MJ s.root (bW seed s.rq),send:=fun i=>MJ s.root (bW seed s.rq) (32+i) }
theorem qb {s:AS} {k:Nat} {v:AV} {x:St} {c:aI} {Post:AV→(Nat→Option aI)→Prop} (hk:0 < k) (hv:AV.plain v=true) (hb:s.box 0=some ⟨true,aU x⟩) (hx: ∀ r:Nat→Nat,(∀ n,n < k→r n=n)→SV.ren r x.store=x.store) (ho:SV.ok (fun n=>n < k+1) x.store) (h:Post v (lk [(0,⟨true,aU x⟩)])):sV k Post v s:=by
 have hr: ∀ n,n < k→lM k k n=n:=fun n hn=>by unfold lM;rw[if_neg (by omega)]
 refine ⟨k,v,lk [(0,⟨true,aU x⟩)],Nat.le_refl k,(AV.bj hv _).symm,AV.aM hv,fun n b hn=> ?_,h⟩
 obtain ⟨rfl,rfl⟩:=D8 hn
 exact ⟨by omega,fun e=>by omega,bR ho,⟨true,aU x⟩,by rw[CN hk];exact hb,fun _=>rfl,by rw[du,hx _ hr]⟩
theorem zm {s:St} {seed:Nat→Int} {n:Nat} {f:Nat→En} {ds:List SV} (hs:fy s) (hb:bg seed) (h0:aO 1 s.store n f ds) (hq:ds.all SV.plain=true):
  bz Tryz.prog 30 [Ptr 0 0,Ag (ah .u8 32 seed)] 2 (lk [(0,⟨true,aU s⟩),(1,⟨false,ds⟩)]) (fun v out=>v= .inr []∧out=lk [(0,⟨true,aU (pC s seed)⟩)]):=by
 refine fh Tryz.func30 rfl (by kernel_rfl) [] [] (by simp[Tryz.ntmps30]) Tryz.rL (fun y hy=>by
  simp only[List.mem_cons,List.not_mem_nil,or_false]at hy
  rcases hy with rfl | rfl
  ·exact (show 0 < 2 by decide)
  ·exact AV.aM (by simpa[AV.plain,CV.plain] using az)) lg (fun m b hm=>by
  rcases yn hm with ⟨rfl,rfl⟩ | ⟨rfl,rfl⟩
  ·exact ⟨by decide,bR (h0.ok (by decide))⟩
  ·exact ⟨by decide,aD hq⟩) ?_
 simp only[Tryz.results30,ak,av,ay,vL,seval, -List.reduceReplicate]
 refine .inl ?_
 simp only[ak,av,ay,vL,seval, -List.reduceReplicate]
 refine ⟨by kernel_rfl, ?_⟩
 refine (tY seed hb).draw (by kernel_rfl) ?_
 simp only[ak,av,ay,vL,seval, -List.reduceReplicate]
 refine .inl ?_
 simp only[ak,av,ay,vL,seval, -List.reduceReplicate]
 refine ⟨by kernel_rfl, ?_⟩
 refine (pZ seed s.rq hb hs.rq).draw (by kernel_rfl) ?_
 simp only[ak,av,ay,vL,seval, -List.reduceReplicate]
 refine (wz s.root (bW seed s.rq) hs.root (eB seed s.rq)).draw (by kernel_rfl) ?_
 simp only[B6,ak,av,ay,vL,seval, -List.reduceReplicate]
 exact qb (x:=pC s seed) (c:=⟨false,ds⟩) (by decide) rfl (by simp only[ak,vR,seval, -List.reduceReplicate];rfl) (fun r hr=>h0.ren (hr 1 (by decide))) (h0.ok (show 1 < 3 by decide)) ⟨rfl,rfl⟩
def jS (s:St):St:={ s with send:=lN s.send 2,ns:=IntKind.u32.wrap (s.ns+1) }
theorem Dx {s:St} {n:Nat} {f:Nat→En} {ds:List SV} (hs:bg s.send) (h0:aO 1 s.store n f ds) (hq:ds.all SV.plain=true):
  bz Tryz.prog 32 [Ptr 0 0] 2 (lk [(0,⟨true,aU s⟩),(1,⟨false,ds⟩)]) (fun v out=>v=Ag (ah .u8 32 (lN s.send 1))∧out=lk [(0,⟨true,aU (jS s)⟩)]):=by
 refine fh Tryz.func32 rfl (by kernel_rfl) [] [] (by simp[Tryz.ntmps32]) Tryz.rM (fun y hy=>by
  simp only[List.mem_cons,List.not_mem_nil,or_false]at hy
  subst hy
  exact (show 0 < 2 by decide)) lg (fun m b hm=>by
  rcases yn hm with ⟨rfl,rfl⟩ | ⟨rfl,rfl⟩
  ·exact ⟨by decide,bR (h0.ok (by decide))⟩
  ·exact ⟨by decide,aD hq⟩) ?_
 simp only[Tryz.results32,ak,av,ay,vL,seval, -List.reduceReplicate]
 refine (tU s.send hs).aB ?_
 simp only[B6,ak,av,ay,vL,seval, -List.reduceReplicate]
 exact qb (x:=jS s) (c:=⟨false,ds⟩) (by decide) (by simpa[AV.plain,CV.plain] using az) (by simp only[ak,vR,seval, -List.reduceReplicate];rfl) (fun r hr=>h0.ren (hr 1 (by decide))) (h0.ok (show 1 < 3 by decide)) ⟨rfl,rfl⟩
def Se (k n:Nat) (s:St) (f:Nat→En) (v:AV) (out:Nat→Option aI):Prop:=
 v=Ptr k 0∧ ∃ sv bx,fK (k+1) n f sv bx∧out=fun m=>if m=k then some ⟨true,aU { s with store:=sv }⟩ else if m=k+1 then bx else none
theorem n9 {p q n:Nat} {f:Nat→En} {sv:SV} {bx:Option aI} (h:fK q n f sv bx): ∃ qc,fK p n f qc bx∧(∀ r:Nat→Nat,r p=q→SV.ren r qc=sv)∧(∀ M:Nat→Prop,M p→SV.ok M qc)∧ ∀ b,bx=some b→b.rw=true∧b.cells.all SV.plain=true:=by
 rcases h with ⟨h0,rfl,rfl⟩ | ⟨h0,c,cs,rfl,hg,rfl⟩
 ·exact ⟨_, .inl ⟨h0,rfl,rfl⟩,fun r hr=>rfl,fun M hM=>SV.aM rfl,fun b hb=>(by cases hb)⟩
 ·exact ⟨.inr (.inr (p,0,n,c)), .inr ⟨h0,c,cs,rfl,hg,rfl⟩,fun r hr=>by simp only[SV.ren,kY,hr],fun M hM=>⟨hM,rfl⟩,fun b hb=>by cases hb;exact ⟨rfl,hg.plain⟩⟩
theorem Ke {s:AS} {k q p n:Nat} {x:St} {f:Nat→En} {sv:SV} {bx:Option aI} (hq:k≤q) (hp:k≤p) (hne:q≠p) (hb:s.box q=some ⟨true,aU { x with store:=sv }⟩) (hb':s.box p=bx) (hK:fK p n f sv bx):tK k 2 (Se k n x f) (Ptr q 0) s:=by
 obtain ⟨qc,hK0,hr0,Sf,ke⟩:=n9 (p:=k+1) hK
 have r0:eM k (fun j=>if j=0 then q else p) k=q:=by unfold eM;rw[if_neg (by omega)];exact if_pos (by omega)
 have r1:eM k (fun j=>if j=0 then q else p) (k+1)=p:=by unfold eM;rw[if_neg (by omega)];exact if_neg (by omega)
 refine ⟨fun j=>if j=0 then q else p,Ptr k 0,fun m=>if m=k then some ⟨true,aU { x with store:=qc }⟩ else if m=k+1 then bx else none,fun j hj=>by (dsimp only;split)<;>assumption,fun i j hi hj e=> ?_, ?_,(show k < k+2 by omega),fun m b hm=> ?_,rfl,qc,bx,hK0,rfl⟩
 ·dsimp only at e
  split at e<;>split at e
  ·omega
  ·exact absurd e hne
  ·exact absurd e.symm hne
  ·omega
 ·show _=Ptr (eM k _ k) 0
  rw[r0]
 ·dsimp only at hm
  split at hm
  ·rename_i e;subst e;cases hm
   exact ⟨by omega,fun _=>rfl,bR (Sf _ (by omega)),⟨true,aU { x with store:=sv }⟩,by rw[r0];exact hb,fun h=>h,by rw[du,hr0 _ r1]⟩
  ·split at hm
   ·rename_i _ e;subst e
    obtain ⟨h1,h2⟩:=ke b hm
    exact ⟨by omega,fun _=>h1,aD h2,b,by rw[r1,hb',hm],fun h=>h,(aN h2 _).symm⟩
   ·cases hm
theorem OP {s:St} {n:Nat} {f:Nat→En} {cs:List SV} (h0:aO 0 s.store n f cs) (hp:cs.all SV.plain=true) (hn:n*72≤140737488355328):
  gy Tryz.prog 29 [Ag (aU s)] 1 2 (lk [(0,⟨false,cs⟩)]) (Se 1 n s f):=by
 refine cW Tryz.func29 rfl (by kernel_rfl) [1] [] (by simp[Tryz.ntmps29]) Tryz.rK (by decide) (fun y hy=>by
  obtain rfl:=List.mem_singleton.1 hy
  exact bR (h0.ok (by decide))) eH (eL hp) ?_
 simp only[Tryz.results29,bY,ak,av,ay,vR,seval, -List.reduceReplicate]
 refine ⟨by decide, ?_⟩
 simp only[bY,ak,av,ay,vR,seval, -List.reduceReplicate]
 refine nX (t:=0) (rw:=false) (by simp only[av,vR,seval, -List.reduceReplicate]) hp h0 hn ?_
 intro sv bx hK
 simp only[bY,ak,av,ay,vR,seval, -List.reduceReplicate]
 exact Ke (q:=19) (p:=11) (by decide) (by decide) (by decide) (by simp only[av,vR,seval, -List.reduceReplicate]) (by simp only[av,vR,seval, -List.reduceReplicate]) hK
theorem pD {p q n:Nat} {f:Nat→En} {sv:SV} {bx:Option aI} {r:Nat→Nat} (h:fK p n f sv bx) (hr:r p=q):fK q n f (SV.ren r sv) (bx.map (aI.ren r)):=by
 rcases h with ⟨h0,rfl,rfl⟩ | ⟨h0,c,cs,rfl,hg,rfl⟩
 ·exact .inl ⟨h0,rfl,rfl⟩
 ·exact .inr ⟨h0,c,cs,by simp only[SV.ren,kY,hr],hg,cG hg.plain⟩
theorem mr {s:AS} {nm t n:Nat} {x:St} {f:Nat→En} {rw:Bool} {cs:List SV} (hb:s.box t=some ⟨rw,cs⟩) (hp:cs.all SV.plain=true) (hi:aO t x.store n f cs) (hn:n*72≤140737488355328) {dst:Option Nat} {K:AS→Prop}
  (hk: ∀ sv bx,fK (nm+1) n f sv bx→K ((⟨s.env,upd (upd s.box nm (some ⟨true,aU { x with store:=sv }⟩)) (nm+1) bx,s.next⟩:AS).put dst (some (Ptr nm 0)))):bw Tryz.prog nm 29 (some [Ag (aU x)]) dst K s:=by
 obtain ⟨v0,g0,e0⟩:=hi.name (k:=0)
 refine (OP (s:={ x with store:=v0 }) g0 hp hn).aB (fun _=>t) none (cy hb hp) ?_ ?_
 ·simp only[List.map_cons,List.map_nil,dW,e0 (fun _=>t) rfl]
 ·rintro v out ⟨rfl,sv,bx,hK,rfl⟩
  have e1:((⟨true,aU { x with store:=sv }⟩:aI)).ren (bt (fun _=>t) 1 nm)=⟨true,aU { x with store:=SV.ren (bt (fun _=>t) 1 nm) sv }⟩:=by unfold aI.ren;rw[du]
  have e2:AV.ren (bt (fun _=>t) 1 nm) (Ptr 1 0)=Ptr nm 0:=by show Ptr (bt (fun _=>t) 1 nm 1) 0=_;rw[fU]
  rw[mS,e2]
  simp only[if_true,if_pos,if_neg (show ¬ (1+1=1) by decide),Option.map_some,e1]
  exact hk _ _ (pD hK pb)
theorem tZ {s:AS} {t u:Nat} {x:St} {v0:SV} {rw:Bool} {ds:List SV} (h:s.box t=some ⟨true,aU x⟩) (h':s.box u=some ⟨rw,ds⟩) (hq:ds.all SV.plain=true) (hne:t≠u) (e:SV.ren (two t u) v0=x.store):
  Fits s (two t u) (lk [(0,⟨true,aU { x with store:=v0 }⟩),(1,⟨false,ds⟩)]) (some 0):=by
 refine ⟨fun m b hm=> ?_,fun m m' b b' hm hrw hm' e=> ?_,fun m b hm hrw=> ?_,fun m hm=> ?_⟩
 ·rcases yn hm with ⟨rfl,rfl⟩ | ⟨rfl,rfl⟩
  ·exact ⟨_,h,fun h=>h,by rw[du];simp only[e]⟩
  ·exact ⟨_,h',fun h=>(by cases h),(aN hq _).symm⟩
 ·rcases yn hm with ⟨rfl,rfl⟩ | ⟨rfl,rfl⟩
  ·rcases yn hm' with ⟨rfl,rfl⟩ | ⟨rfl,rfl⟩
   ·rfl
   ·exact absurd e hne
  ·cases hrw
 ·rcases yn hm with ⟨rfl,rfl⟩ | ⟨rfl,rfl⟩
  ·rfl
  ·cases hrw
 ·cases hm;exact ⟨_,rfl,rfl⟩
theorem Cc {s:AS} {nm:Nat} {r:Nat→Nat} {k n:Nat} {out:Nat→Option aI} (h: ¬ (nm≤r n∧r n < nm+1)):lr s r k 1 nm (some n) out=upd (upd s.box (r n) ((out n).map (aI.ren (bt r k nm)))) nm ((out k).map (aI.ren (bt r k nm))):=by
 funext t
 unfold lr upd
 by_cases h1:t=nm
 ·subst h1;simp
 ·rw[if_neg (by omega)];simp[h1]
theorem Kf {s:AS} {nm t u n:Nat} {x:St} {seed:Nat→Int} {f:Nat→En} {rw:Bool} {ds:List SV} (hs:fy x) (hb:bg seed) (h:s.box t=some ⟨true,aU x⟩) (h':s.box u=some ⟨rw,ds⟩) (hq:ds.all SV.plain=true) (hne:t≠u) (hi:aO u x.store n f ds) {dst:Option Nat} {K:AS→Prop}
  (hk:K ((⟨s.env,upd s.box t (some ⟨true,aU (pC x seed)⟩),s.next⟩:AS).put dst (some (.inr [])))):aB Tryz.prog nm 30 (some [Ptr t 0,Ag (ah .u8 32 seed)]) dst K s:=by
 obtain ⟨v0,g0,e0⟩:=hi.name (k:=1)
 have e1:SV.ren (two t u) v0=x.store:=e0 _ rfl
 refine (zm (s:={ x with store:=v0 }) (hs.ws v0) hb g0 hq).aB (two t u) (some 0) (tZ h h' hq hne e1) ?_ ?_
 ·have:AV.ren (two t u) (Ag (ah .u8 32 seed))=Ag (ah .u8 32 seed):=AV.bj (by simpa[AV.plain,CV.plain] using az) _
  simp only[List.map_cons,List.map_nil,this];rfl
 ·rintro v out ⟨rfl,rfl⟩ _
  have e2:SV.ren (dy (two t u) 2 nm) v0=x.store:=e0 _ rfl
  have:after s (two t u) 2 nm (some 0) (lk [(0,⟨true,aU (pC { x with store:=v0 } seed)⟩)])=upd s.box t (some ⟨true,aU (pC x seed)⟩):=by
   have e3:aU { (pC { x with store:=v0 } seed) with store:=x.store }=aU (pC x seed):=rfl
   simp only[after,lk,if_true,Option.map_some,aI.ren,du]
   show upd s.box t (some ⟨true,aU { (pC { x with store:=v0 } seed) with store:=SV.ren (dy (two t u) 2 nm) v0 }⟩)=_
   rw[e2,e3]
  rw[this]
  exact hk
theorem Kg {s:AS} {nm t u n:Nat} {x:St} {f:Nat→En} {rw:Bool} {ds:List SV} (hs:bg x.send) (h:s.box t=some ⟨true,aU x⟩) (h':s.box u=some ⟨rw,ds⟩) (hq:ds.all SV.plain=true) (hne:t≠u) (hi:aO u x.store n f ds) (hnm:t≠nm) {dst:Option Nat} {K:AS→Prop}
  (hk:K ((⟨s.env,upd (upd s.box t (some ⟨true,aU (jS x)⟩)) nm none,s.next⟩:AS).put dst (some (Ag (ah .u8 32 (lN x.send 1)))))):bw Tryz.prog nm 32 (some [Ptr t 0]) dst K s:=by
 obtain ⟨v0,g0,e0⟩:=hi.name (k:=1)
 have e1:SV.ren (two t u) v0=x.store:=e0 _ rfl
 refine (Dx (s:={ x with store:=v0 }) hs g0 hq).wide.aB (two t u) (some 0) (tZ h h' hq hne e1) ?_ ?_
 ·simp only[List.map_cons,List.map_nil];rfl
 ·rintro v out ⟨rfl,rfl⟩
  have e2:SV.ren (bt (two t u) 2 nm) v0=x.store:=e0 _ rfl
  have e4:AV.ren (bt (two t u) 2 nm) (Ag (ah .u8 32 (lN x.send 1)))=Ag (ah .u8 32 (lN x.send 1)):=AV.bj (by simpa[AV.plain,CV.plain] using az) _
  rw[Cc (by show ¬ (nm≤t∧t < nm+1);omega),e4]
  have e3:aU { (jS { x with store:=v0 }) with store:=x.store }=aU (jS x):=rfl
  have:(some (⟨true,aU (jS { x with store:=v0 })⟩:aI)).map (aI.ren (bt (two t u) 2 nm))=some ⟨true,aU (jS x)⟩:=by
   simp only[Option.map_some,aI.ren,du]
   show some (⟨true,aU { (jS { x with store:=v0 }) with store:=SV.ren (bt (two t u) 2 nm) v0 }⟩:aI)=_
   rw[e2,e3]
  have l0:lk [(0,(⟨true,aU (jS { x with store:=v0 })⟩:aI))] 0=some ⟨true,aU (jS { x with store:=v0 })⟩:=rfl
  have l2:lk [(0,(⟨true,aU (jS { x with store:=v0 })⟩:aI))] 2=none:=rfl
  rw[l0,l2,this]
  exact hk
theorem Kh {o n c m:Nat} {cs:List SV} (hp:cs.all SV.plain=true) (hm:m≤n) (hc:n≤c):
  bz Tryz.prog 98 [Ptr 0 0,I .i64 m] 2 (kE o n c cs) (FY (Sl 1 o m c) (XG o m c) (n - m) (c - m)):=by
 refine aA Tryz.func98 rfl (by kernel_rfl) (by simp[Tryz.ntmps98]) Tryz.sH (by simp[AV.ok,CV.ok,SV.names]) CU (CW hp) ?_
 have b0:kE o n c cs 0=some ⟨true,[rd 1 o n c]⟩:=rfl
 have l1:(((m:Nat):Int)≤(n:Int))=True:=eq_true (by omega)
 have l2:(((m:Nat):Int)≤(c:Int))=True:=eq_true (by omega)
 have l3:(((n:Nat):Int)≤(c:Int))=True:=eq_true (by omega)
 simp only[Tryz.results98,b0,l1,l2,l3,cC,vR,seval, -List.reduceReplicate]
 exact CX rfl (show (1:Nat) < 2 by omega)
theorem MR {o n c:Nat} {f:Nat→Int} {cs:List SV} (hf:bg f) (hs:br cs o n f) (hp:cs.all SV.plain=true) (hm:4≤n) (hc:n≤c):
  bz Tryz.prog 83 [Ptr 0 0] 2 (kE o n c cs) (FY (I .u32 (ko f 0)) (XG o 4 c) (n - 4) (c - 4)):=by
 refine aA Tryz.func83 rfl (by kernel_rfl) (by simp[Tryz.ntmps83]) Tryz.su (by simp[AV.ok,CV.ok,SV.names]) CU (CW hp) ?_
 have b0:kE o n c cs 0=some ⟨true,[rd 1 o n c]⟩:=rfl
 have b1:kE o n c cs 1=some ⟨false,cs⟩:=rfl
 have a0:=hs 0 (by omega)
 have a1:=hs 1 (by omega)
 have a2:=hs 2 (by omega)
 have a3:=hs 3 (by omega)
 rw[Nat.add_zero]at a0
 have e:=Uu (f 0) (f 1) (f 2) (f 3) (hf 0) (hf 1) (hf 2) (hf 3)
 simp only[Tryz.results83,vR,seval, -List.reduceReplicate]
 refine j4 (Kh (o:=o) (m:=4) hp hm hc) (t:=0) (u:=1) (rw:=false) (by simp only[ae,b0,vR,seval, -List.reduceReplicate]) (by simp only[ae,b1,vR,seval, -List.reduceReplicate]) hp (by decide) rfl (y:=Sl 1 o 4 c) rfl ?_
 simp only[b1,a0,a1,a2,a3,Nat.add_zero,e,vR,seval, -List.reduceReplicate]
 exact ⟨by kernel_rfl,CX rfl trivial⟩
theorem Sg {o n c:Nat} {f:Nat→Int} {cs:List SV} (hs:br cs o n f) (hp:cs.all SV.plain=true) (hm:32≤n) (hc:n≤c):
  bz Tryz.prog 84 [Ptr 0 0] 2 (kE o n c cs) (FY (Ag (ah .u8 32 f)) (XG o 32 c) (n - 32) (c - 32)):=by
 refine aA Tryz.func84 rfl (by kernel_rfl) (by simp[Tryz.ntmps84]) Tryz.sx (by simp[AV.ok,CV.ok,SV.names]) CU (CW hp) ?_
 have b0:kE o n c cs 0=some ⟨true,[rd 1 o n c]⟩:=rfl
 have b1:kE o n c cs 1=some ⟨false,cs⟩:=rfl
 have hl:o+31 < cs.length:=(List.getElem?_eq_some_iff.1 (hs 31 (by omega))).1
 have ek:List.take 32 (List.drop o cs)=ah .u8 32 f:=Jd hs hm
 simp only[Tryz.results84,vR,seval, -List.reduceReplicate]
 refine j4 (Kh (o:=o) (m:=32) hp hm hc) (t:=0) (u:=1) (rw:=false) (by simp only[ae,b0,vR,seval, -List.reduceReplicate]) (by simp only[ae,b1,vR,seval, -List.reduceReplicate]) hp (by decide) rfl (y:=Sl 1 o 32 c) rfl ?_
 simp only[b1,Nat.add_zero,ek,vR,seval, -List.reduceReplicate]
 exact ⟨by omega,CX rfl (of_eq_true XF)⟩
theorem U5 {o n c m:Nat} {f:Nat→Int} {cs:List SV} (hs:br cs o n f) (hp:cs.all SV.plain=true) (hm:m≤n) (hc:n≤c) (hby:n≤140737488355328):
  bz Tryz.prog 85 [Ptr 0 0,I .i64 m] 2 (kE o n c cs) (L6 m f (XG o m c) (n - m) (c - m)):=by
 refine aA Tryz.func85 rfl (by kernel_rfl) (by simp[Tryz.ntmps85]) Tryz.sy (by simp[AV.ok,CV.ok,SV.names]) CU (CW hp) ?_
 have b0:kE o n c cs 0=some ⟨true,[rd 1 o n c]⟩:=rfl
 have b1:kE o n c cs 1=some ⟨false,cs⟩:=rfl
 simp only[Tryz.results85,vR,seval, -List.reduceReplicate]
 refine j4 (Kh (o:=o) (m:=m) hp hm hc) (t:=0) (u:=1) (rw:=false) (by simp only[ae,b0,vR,seval, -List.reduceReplicate]) (by simp only[ae,b1,vR,seval, -List.reduceReplicate]) hp (by decide) rfl (y:=Sl 1 o m c) rfl ?_
 simp only[vR,seval, -List.reduceReplicate]
 refine mQ Tryz.gA Tryz.gi (m:=m) (g:=f) (.inr ⟨1,o,c,false,cs,rfl,by simp only[ae,b1,vR,seval, -List.reduceReplicate],hp,rj hs hm⟩) (by omega) (fun h0=> ?_) (fun h0 c' cs' hg=> ?_)
 ·simp only[vR,seval, -List.reduceReplicate]
  exact N5 h0 rfl
 ·simp only[vR,seval, -List.reduceReplicate]
  exact N6 h0 (by decide) hg rfl rfl
theorem pE {n o c:Nat} {f:Nat→Int} {cs:List SV} {x:Int} (hg:bV cs o n c f) (hn:n+4≤140737488355328):
  bz Tryz.prog 82 [Sl 0 o n c,I .u32 x] 1 (lk [(0,⟨true,cs⟩)]) (Made 1 (n+4) (bh n f (g9 x))):=by
 refine aA Tryz.func82 rfl (by kernel_rfl) (by simp[Tryz.ntmps82]) Tryz.sn (by simp[AV.ok,CV.ok,SV.names]) eH (eL hg.plain) ?_
 have e0:IntKind.u8.wrap (ft .u32 x 24)=g9 x 0:=rfl
 have e1:IntKind.u8.wrap (ft .u32 x 16)=g9 x 1:=rfl
 have e2:IntKind.u8.wrap (ft .u32 x 8)=g9 x 2:=rfl
 have e3:IntKind.u8.wrap x=g9 x 3:=by unfold g9 ft;simp
 simp only[Tryz.results82,e0,e1,e2,e3,XO,XP,XQ,XR,vR,seval, -List.reduceReplicate]
 refine fI (g:=g9 x) Tryz.gA Tryz.gi (by simp only[ae,vR,seval, -List.reduceReplicate]) hg (.inr ⟨14,0,4,true,_,rfl,by simp only[ae,vR,seval, -List.reduceReplicate],XS,by decide⟩) (by omega) ?_
 intro c2 qH j6
 simp only[vR,seval, -List.reduceReplicate]
 refine gV (k:=1) (q:=15) (cs:=qH) (by decide) ?_ j6.plain j6.made
 simp only[vR,seval, -List.reduceReplicate]
def gk (aF:Nat→Int) (pn n:Int) (sv:SV) (tag:Nat→Int):List SV:=ah .u8 32 aF++(Sum.inl (.int .u32 pn)::Sum.inl (.int .u32 n)::sv::ah .u8 32 tag)
def lO (aF:Nat→Int) (pn n:Int):List SV:=ah .u8 32 aF++[Sum.inl (.int .u32 pn),Sum.inl (.int .u32 n)]
section
variable {aF tag:Nat→Int} {pn n:Int} {sv:SV}
theorem gY:(gk aF pn n sv tag).length=67:=by simp[gk,af]
theorem l8:(lO aF pn n).length=34:=by simp[lO,af]
theorem MS:List.take 32 (gk aF pn n sv tag)=ah .u8 32 aF:=by
 unfold gk;rw[List.take_append_of_le_length (by rw[af];omega)];exact gW _ _ _
theorem HG:List.take 34 (gk aF pn n sv tag)=lO aF pn n:=by
 unfold gk lO
 rw[List.take_append,af,List.take_of_length_le (by rw[af];omega)];rfl
theorem MU:List.take 32 (List.drop 35 (gk aF pn n sv tag))=ah .u8 32 tag:=by
 unfold gk
 rw[List.drop_append,af,List.drop_eq_nil_of_le (by rw[af];omega),List.nil_append]
 exact gW _ _ _
theorem Ym:(gk aF pn n sv tag)[32]? =some (Sum.inl (.int .u32 pn)):=by
 unfold gk;rw[List.getElem?_append_right (by rw[af];omega),af];rfl
theorem Ki:(gk aF pn n sv tag)[33]? =some (Sum.inl (.int .u32 n)):=by
 unfold gk;rw[List.getElem?_append_right (by rw[af];omega),af];rfl
theorem uX:(gk aF pn n sv tag)[34]? =some sv:=by
 unfold gk;rw[List.getElem?_append_right (by rw[af];omega),af];rfl
theorem iB:List.take 67 (gk aF pn n sv tag)=gk aF pn n sv tag:=List.take_of_length_le (by rw[gY];omega)
theorem Dy:br (gk aF pn n sv tag) 0 32 aF:=fun i hi=>by
 rw[Nat.zero_add];unfold gk;rw[List.getElem?_append_left (by rw[af];exact hi),aE .u8 32 aF i hi]
theorem Dz:br (gk aF pn n sv tag) 35 32 tag:=fun i hi=>by
 unfold gk;rw[List.getElem?_append_right (by rw[af];omega),af,show 35+i - 32=i+1+1+1 by omega]
 simp only[List.getElem?_cons_succ]
 exact aE .u8 32 tag i hi
theorem DB {r:Nat→Nat}:(gk aF pn n sv tag).map (SV.ren r)=gk aF pn n (SV.ren r sv) tag:=by
 unfold gk
 rw[List.map_append,aN az,List.map_cons,List.map_cons,List.map_cons,aN az];rfl
theorem MV {x:SV} (h:x ∈ gk aF pn n sv tag):x=sv∨SV.plain x=true:=by
 unfold gk at h
 rcases List.mem_append.1 h with h | h
 ·exact .inr (List.all_eq_true.1 az x h)
 ·rcases List.mem_cons.1 h with rfl | h
  ·exact .inr rfl
  ·rcases List.mem_cons.1 h with rfl | h
   ·exact .inr rfl
   ·rcases List.mem_cons.1 h with rfl | h
    ·exact .inl rfl
    ·exact .inr (List.all_eq_true.1 az x h)
theorem uY (h:SV.plain sv=true):(gk aF pn n sv tag).all SV.plain=true:=List.all_eq_true.2 fun x hx=>by
 rcases MV hx with rfl | h'
 ·exact h
 ·exact h'
theorem oc {M:Nat→Prop} (h:SV.ok M sv): ∀ x ∈ gk aF pn n sv tag,SV.ok M x:=fun x hx=>by
 rcases MV hx with rfl | h'
 ·exact h
 ·exact SV.aM h'
end
def ua (aF:Nat→Int) (pn n:Int) (m:Nat) (body tag:Nat→Int):Nat→Int:=
 bh (45+m) (bh 45 (bh 41 (bh 37 (bh 33 (bh 1 (fun _=>210) aF) (g9 pn)) (g9 n)) (g9 m)) body) tag
theorem DC {n:Nat} {sv:SV} {f:Nat→Int} {cs:List SV} {M:Nat→Prop} {t:Nat} (h:fC t (.inl (.inl sv)) n f cs) (hM:M t):SV.ok M sv:=by
 rcases h with ⟨⟨a,e⟩,h0⟩ | ⟨o,c,e,hs⟩
 ·cases e;exact ⟨trivial,rfl⟩
 ·cases e;exact ⟨hM,rfl⟩
theorem Sh {n t:Nat} {sv:SV} {f:Nat→Int} {cs:List SV} (h:fC t (.inl (.inl sv)) n f cs): ∃ qc,fC 0 (.inl (.inl qc)) n f cs∧SV.ren (fun _=>t) qc=sv:=by
 rcases h with ⟨⟨a,e⟩,h0⟩ | ⟨o,c,e,hs⟩
 ·cases e;exact ⟨_, .inl ⟨⟨a,rfl⟩,h0⟩,rfl⟩
 ·cases e;exact ⟨_, .inr ⟨o,c,rfl,hs⟩,rfl⟩
theorem og {r:Nat→Nat} {aF tag:Nat→Int} {pn n:Int} {sv:SV}:AV.ren r (Ag (gk aF pn n sv tag))=Ag (gk aF pn n (SV.ren r sv) tag):=by
 show AV.ren r (.inl (.inr _))=_
 simp only[AV.ren,CV.ren,DB]
theorem zW {aF tag body:Nat→Int} {pn n:Int} {m:Nat} {sv:SV} {cs:List SV} (hp:cs.all SV.plain=true) (hb:fC 0 (.inl (.inl sv)) m body cs) (hm:m≤65536):
  bz Tryz.prog 58 [V (.slice none 0 0),Ag (gk aF pn n sv tag)] 1 (lk [(0,⟨false,cs⟩)]) (Made 1 (45+m+32) (ua aF pn n m body tag)):=by
 refine aA Tryz.func58 rfl (by kernel_rfl) (by simp[Tryz.ntmps58]) Tryz.rW (fun u hu=>by
  simp only[List.mem_cons,List.not_mem_nil,or_false]at hu
  rcases hu with rfl | rfl
  ·trivial
  ·exact oc (DC hb (by decide))) eH (eL hp) ?_
 have Si:=fun {box:Nat→Option aI} (h:cK box (.inl (.inl sv)) m body)=>at_len h
 have Ea:cK (lk [(0,(⟨false,cs⟩:aI))]) (.inl (.inl sv)) m body:=hb.at (t:=0) rfl hp
 simp only[Tryz.results58,gY,iB,fS,vR,seval, -List.reduceReplicate]
 refine mQ (m:=1) (g:=fun _=>210) Tryz.gA Tryz.gi (.inr ⟨4,0,1,true,_,rfl,by simp only[ae,vR,seval, -List.reduceReplicate],rfl,gp⟩) (by decide) (fun h=>absurd h (by decide)) (fun _ c1 G0 g1=> ?_)
 simp only[vR,seval, -List.reduceReplicate]
 refine fI (m:=32) (g:=aF) Tryz.gA Tryz.gi (by simp only[ae,vR,seval, -List.reduceReplicate]) g1 (.inr ⟨1,0,32,true,gk aF pn n sv tag,rfl,by simp only[ae,vR,seval, -List.reduceReplicate],Dy,by decide⟩) (by omega) ?_
 intro c2 qH g2
 simp only[Ym,vR,seval, -List.reduceReplicate]
 refine tE (pE g2 (by omega)) (by simp only[ae,vR,seval, -List.reduceReplicate]) g2.plain rfl ?_
 intro c3 cs3 g3
 simp only[Ki,vR,seval, -List.reduceReplicate]
 refine tE (pE g3 (by omega)) (by simp only[ae,vR,seval, -List.reduceReplicate]) g3.plain rfl ?_
 intro c4 cs4 g4
 have hw:IntKind.u32.wrap (m:Int)=(m:Int):=iJ _ (by omega) (by omega)
 simp only[uX,Si Ea,hw,vR,seval, -List.reduceReplicate]
 refine tE (pE g4 (by omega)) (by simp only[ae,vR,seval, -List.reduceReplicate]) g4.plain rfl ?_
 intro c5 cs5 g5
 simp only[uX,vR,seval, -List.reduceReplicate]
 refine fI (m:=m) (g:=body) Tryz.gA Tryz.gi (by simp only[ae,vR,seval, -List.reduceReplicate]) g5 (NY (k:=1) Ea (hb.ok (by decide)) (by decide) (fun t ht=> ?_)) (by omega) ?_
 ·obtain rfl:t=0:=by omega
  simp only[ae,vR,seval, -List.reduceReplicate]
 intro c6 cs6 g6
 simp only[vR,seval, -List.reduceReplicate]
 refine fI (m:=32) (g:=tag) Tryz.gA Tryz.gi (by simp only[ae,vR,seval, -List.reduceReplicate]) g6 (.inr ⟨1,35,32,true,gk aF pn n sv tag,rfl,by simp only[ae,vR,seval, -List.reduceReplicate],Dz,by decide⟩) (by omega) ?_
 intro c7 cs7 g7
 simp only[vR,seval, -List.reduceReplicate]
 refine gV (k:=1) (cs:=cs7) (by decide) ?_ g7.plain g7.made
 simp only[ae,vR,seval, -List.reduceReplicate]
theorem qJ {aF tag body:Nat→Int} {pn n:Int} {m:Nat} {sv:SV} {cs:List SV} (hp:cs.all SV.plain=true) (hb:fC 0 (.inl (.inl sv)) m body cs) (hm:m≤65536):
  bz Tryz.prog 34 [Ag (gk aF pn n sv tag)] 1 (lk [(0,⟨false,cs⟩)]) (Made 1 (45+m+32) (ua aF pn n m body tag)):=by
 refine aA Tryz.func34 rfl (by kernel_rfl) (by simp[Tryz.ntmps34]) Tryz.nI (fun u hu=>by
  simp only[List.mem_cons,List.not_mem_nil,or_false]at hu
  subst hu
  exact oc (DC hb (by decide))) eH (eL hp) ?_
 have Si:=fun {box:Nat→Option aI} (h:cK box (.inl (.inl sv)) m body)=>at_len h
 have Ea:cK (lk [(0,(⟨false,cs⟩:aI))]) (.inl (.inl sv)) m body:=hb.at (t:=0) rfl hp
 have d:decide (65536 < (m:Int))=false:=decide_eq_false (by omega)
 simp only[Tryz.results34,gY,iB,uX,Si Ea,d,vR,seval, -List.reduceReplicate]
 refine pS (zW (aF:=aF) (tag:=tag) (pn:=pn) (n:=n) hp hb hm) (fun _=>0) (cy (t:=0) (rw:=false) (by simp only[ae,vR,seval, -List.reduceReplicate]) hp) ?_ ?_
 ·have:SV.ren (fun _=>0) sv=sv:=by
   rcases hb with ⟨⟨a,e⟩,h0⟩ | ⟨o,c,e,hs⟩<;>cases e<;>rfl
  simp only[List.map_cons,List.map_nil,oz,og,this]
 intro c tail h1 h2 h3
 simp only[vR,seval, -List.reduceReplicate]
 refine Br (k:=1) (by decide) (bV.row h1 h2 h3) ?_ rfl
 simp only[ae,vR,seval, -List.reduceReplicate]
theorem wT {aF tag body:Nat→Int} {pn n:Int} {m:Nat} {sv:SV} {cs:List SV} (hp:cs.all SV.plain=true) (hb:fC 0 (.inl (.inl sv)) m body cs) (hm:65536 < m):
  bz Tryz.prog 34 [Ag (gk aF pn n sv tag)] 1 (lk [(0,⟨false,cs⟩)]) (fun v out=>v=V (.slice none 0 0)∧out=fun _=>none):=by
 refine aA Tryz.func34 rfl (by kernel_rfl) (by simp[Tryz.ntmps34]) Tryz.nI (fun u hu=>by
  simp only[List.mem_cons,List.not_mem_nil,or_false]at hu
  subst hu
  exact oc (DC hb (by decide))) eH (eL hp) ?_
 have Si:=fun {box:Nat→Option aI} (h:cK box (.inl (.inl sv)) m body)=>at_len h
 have Ea:cK (lk [(0,(⟨false,cs⟩:aI))]) (.inl (.inl sv)) m body:=hb.at (t:=0) rfl hp
 have d:decide (65536 < (m:Int))=true:=decide_eq_true (by omega)
 simp only[Tryz.results34,gY,iB,uX,Si Ea,d,vR,seval, -List.reduceReplicate]
 exact ao rfl ⟨rfl,rfl⟩
theorem HI {s:AS} {nm t m:Nat} {aF tag body:Nat→Int} {pn n:Int} {sv:SV} {cs:List SV} {rw:Bool} (hb:s.box t=some ⟨rw,cs⟩) (hp:cs.all SV.plain=true) (hv:fC t (.inl (.inl sv)) m body cs) {dst:Option Nat} {K:AS→Prop}
  (Yn:65536 < m→K (s.put dst (some (V (.slice none 0 0)))))
  (hk:m≤65536→ ∀ c cs',bV cs' 0 (45+m+32) c (ua aF pn n m body tag)→K ((⟨s.env,upd s.box nm (some ⟨true,cs'⟩),s.next⟩:AS).put dst (some (Sl nm 0 (45+m+32) c)))):
  aB Tryz.prog nm 34 (some [Ag (gk aF pn n sv tag)]) dst K s:=by
 obtain ⟨qc,h0,rfl⟩:=Sh hv
 rcases Nat.lt_or_ge 65536 m with hm | hm
 ·exact (wT (aF:=aF) (tag:=tag) (pn:=pn) (n:=n) hp h0 hm).dP (fun _=>t) (cy hb hp) rfl (by simp only[List.map_cons,List.map_nil,og]) (Yn hm)
 ·exact pS (qJ (aF:=aF) (tag:=tag) (pn:=pn) (n:=n) hp h0 hm) (fun _=>t) (cy hb hp) (by simp only[List.map_cons,List.map_nil,og]) (fun c tail h1 h2 h3=>hk hm c _ (bV.row h1 h2 h3))
theorem dC:List.map Sum.inl (List.replicate 32 (Value.int IntKind.u8 0)++List.replicate 2 (Value.int IntKind.u32 0)++List.replicate 1 (Value.slice none 0 0)++List.replicate 32 (Value.int IntKind.u8 0))=gk (fun _=>0) 0 0 (Sum.inl (Value.slice none 0 0)) (fun _=>0):=by
 simp only[List.map_append,aR];rfl
theorem cH:(List.replicate 32 (Sum.inl (Value.int IntKind.u8 0))++List.replicate 2 (Sum.inl (Value.int IntKind.u32 0))++List.replicate 1 (Sum.inl (Value.slice none 0 0))++List.replicate 32 (Sum.inl (Value.int IntKind.u8 0)):List SV)=gk (fun _=>0) 0 0 (Sum.inl (Value.slice none 0 0)) (fun _=>0):=by
 rw[aH];rfl
theorem gQ:(List.replicate 32 (Sum.inl (Value.int IntKind.u8 0))++List.replicate 2 (Sum.inl (Value.int IntKind.u32 0)):List SV)=lO (fun _=>0) 0 0:=by
 rw[aH];rfl
theorem eQ:(List.map Sum.inl (List.replicate 32 (Value.int IntKind.u8 0)++List.replicate 2 (Value.int IntKind.u32 0)):List SV)=lO (fun _=>0) 0 0:=by
 rw[List.map_append,aR];rfl
section
variable {g p q r:Nat→Int} {a b x y:Int} {sv sw:SV}
theorem fj {k:IntKind} {n m:Nat} {f:Nat→Int} (h:n≤m):List.take m (ah k n f)=ah k n f:=List.take_of_length_le (by rw[af];exact h)
theorem fO {k:IntKind} {n m:Nat} {f:Nat→Int} (h:n≤m):List.drop m (ah k n f)=[]:=List.drop_eq_nil_of_le (by rw[af];exact h)
theorem Sj:splice (lO g a b) 0 (ah .u8 32 p)=lO p a b:=by simp[splice,lO,af,List.take_append,List.drop_append,fj,fO]
theorem Sk:splice (lO g a b) 32 [Sum.inl (.int .u32 x)]=lO g x b:=by simp[splice,lO,af,List.take_append,List.drop_append,fj,fO]
theorem Sm:splice (lO g a b) 33 [Sum.inl (.int .u32 x)]=lO g a x:=by simp[splice,lO,af,List.take_append,List.drop_append,fj,fO]
theorem Sn:splice (lO g a b) 0 (lO p x y)=lO p x y:=by simp[splice,lO,af,List.take_append,List.drop_append,fj,fO]
theorem lH:List.take 34 (lO g a b)=lO g a b:=List.take_of_length_le (by rw[l8];omega)
theorem MW:splice (gk g a b sv q) 0 (lO p x y)=gk p x y sv q:=by simp[splice,lO,gk,af,List.take_append,List.drop_append,fj,fO]
theorem MX:splice (gk g a b sv q) 34 [sw]=gk g a b sw q:=by simp[splice,gk,af,List.take_append,List.drop_append,fj,fO]
theorem MY:splice (gk g a b sv q) 35 (ah .u8 32 r)=gk g a b sv r:=by simp[splice,gk,af,List.take_append,List.drop_append,fj,fO]
theorem ub:splice (gk g a b sv q) 0 (gk p x y sw r)=gk p x y sw r:=by simp[splice,gk,af,List.take_append,List.drop_append,fj,fO]
theorem MZ:lO (fun _=>0) 0 0++List.replicate 1 (Sum.inl (Value.slice none 0 0))++List.replicate 32 (Sum.inl (Value.int IntKind.u8 0))=gk (fun _=>0) 0 0 (Sum.inl (Value.slice none 0 0)) (fun _=>0):=by
 rw[← gQ,cH]
theorem M3:(lO g a b)[32]? =some (Sum.inl (.int .u32 a)):=by
 unfold lO;rw[List.getElem?_append_right (by simp[af])];simp[af]
theorem M4:(lO g a b)[33]? =some (Sum.inl (.int .u32 b)):=by
 unfold lO;rw[List.getElem?_append_right (by simp[af])];simp[af]
theorem WN:List.take 32 (lO g a b)=ah .u8 32 g:=by simp[lO,af,List.take_append,fj]
theorem jT:(lO g a b).all SV.plain=true:=by
 simp only[lO,List.all_append,az,Bool.true_and];rfl
theorem dY:AV.plain (Ag (lO g a b))=true:=by simpa[AV.plain,CV.plain] using (jT (g:=g) (a:=a) (b:=b))
theorem bJ:type_of% @dC∧type_of% @MZ∧type_of% @gQ∧type_of% @eQ∧type_of% @Sj∧type_of% @Sk∧type_of% @Sm∧type_of% @Sn∧type_of% @lH∧type_of% @MW∧type_of% @MX∧type_of% @MY∧type_of% @ub∧type_of% @M3∧type_of% @M4∧type_of% @WN∧type_of% @gY∧type_of% @l8∧type_of% @MS∧type_of% @HG∧type_of% @MU∧type_of% @Ki∧type_of% @uX∧type_of% @iB:=
 ⟨@dC, @MZ, @gQ, @eQ, @Sj, @Sk, @Sm, @Sn, @lH, @MW, @MX, @MY, @ub, @M3, @M4, @WN, @gY, @l8, @MS, @HG, @MU, @Ki, @uX, @iB⟩
end
end Go.Proofs.YtbipdofobgabhaaGreatDoor
