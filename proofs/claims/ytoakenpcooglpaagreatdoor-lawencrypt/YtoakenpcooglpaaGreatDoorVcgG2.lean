/-
  The order of a store's entries, in the program.
-/
import Derived.Test.YtoakenpcooglpaaGreatDoorVcgPL
set_option linter.unusedVariables false
set_option linter.unusedSimpArgs false
set_option maxHeartbeats 8000000
set_option maxRecDepth 20000
namespace Go.Proofs.YtoakenpcooglpaaGreatDoor
open Go.cA
set_option linter.unusedSectionVars false
variable [aX]
theorem ajj {M:Nat→Prop} {e:En}:AV.ok M (Ag (fQ e)):=fun x hx=>SV.bH (List.all_eq_true.1 kg x hx)
theorem rX {s:St} {e:En} (hs:iH s) (he:la e):rW s e=true↔1≤e.ep∧(e.ep < s.re∨e.ep=s.re∧e.n < s.nr):=by
 have w1:=he.ep;have w2:=he.n;have w3:=hs.re;have w4:=hs.nr
 simp only[HD]at w1 w2 w3 w4
 simp only[rW,Bool.and_eq_true,Bool.not_eq_true',beq_eq_false_iff_ne,decide_eq_true_eq]
 unfold rV
 constructor
 ·intro h;have:=h.1;have:=h.2;omega
 ·intro h;exact ⟨by omega,by omega⟩
theorem Zy {s:St} {e:En} {n:Nat} {f:Nat→En} {cs:List SV} (h0:aY 0 s.store n f cs) (hp:cs.all SV.plain=true) (hs:iH s) (he:la e):
  bt Tryz.prog 78 [Ag (bO s),Ag (fQ e)] 1 (lk [(0,⟨false,cs⟩)]) (fun v out=>v=B (rW s e)∧out=fun _=>none):=by
 refine aE Tryz.func78 rfl (by kernel_rfl) (by simp[Tryz.ntmps78]) Tryz.qE (fun y hy=>by
  rcases List.mem_cons.1 hy with rfl | hy
  ·exact cO (h0.ok (by decide))
  ·obtain rfl:=List.mem_singleton.1 hy
   exact ajj) eG (eH hp) ?_
 have w1:=he.ep;have w2:=he.n;have w3:=hs.re;have w4:=hs.nr
 simp only[HD]at w1 w2 w3 w4
 rcases Bool.eq_false_or_eq_true (decide (e.ep < 1)) with h0 | h0
 ·(have gh0:(e.ep < 1):=(by simpa using h0);have e:rW s e=false:=(Bool.eq_false_iff.2 fun hh=>by have:=(rX hs he).1 hh;omega);rw[e];simp only[Tryz.results78,h0,fK,aq,Tryz.vr,Value.oneCell',simprocAttr, -List.reduceReplicate];exact aC rfl ⟨rfl,rfl⟩)
 ·rcases Bool.eq_false_or_eq_true (decide (s.re < e.ep)) with h1 | h1
  ·(have gh0: ¬ (e.ep < 1):=(by simpa using h0);have gh1:(s.re < e.ep):=(by simpa using h1);have e:rW s e=false:=(Bool.eq_false_iff.2 fun hh=>by have:=(rX hs he).1 hh;omega);rw[e];simp only[Tryz.results78,h0,h1,fK,aq,Tryz.vr,Value.oneCell',simprocAttr, -List.reduceReplicate];exact aC rfl ⟨rfl,rfl⟩)
  ·rcases Bool.eq_false_or_eq_true (decide (e.ep < s.re)) with h2 | h2
   ·(have gh0: ¬ (e.ep < 1):=(by simpa using h0);have gh1: ¬ (s.re < e.ep):=(by simpa using h1);have gh2:(e.ep < s.re):=(by simpa using h2);have e:rW s e=true:=((rX hs he).2 (by omega));rw[e];simp only[Tryz.results78,h0,h1,h2,fK,aq,Tryz.vr,Value.oneCell',simprocAttr, -List.reduceReplicate];exact aC rfl ⟨rfl,rfl⟩)
   ·rcases Bool.eq_false_or_eq_true (decide (e.n < s.nr)) with h3 | h3
    ·(have gh0: ¬ (e.ep < 1):=(by simpa using h0);have gh1: ¬ (s.re < e.ep):=(by simpa using h1);have gh2: ¬ (e.ep < s.re):=(by simpa using h2);have gh3:(e.n < s.nr):=(by simpa using h3);have e:rW s e=true:=((rX hs he).2 (by omega));rw[e];simp only[Tryz.results78,h0,h1,h2,h3,fK,aq,Tryz.vr,Value.oneCell',simprocAttr, -List.reduceReplicate];exact aC rfl ⟨rfl,rfl⟩)
    ·(have gh0: ¬ (e.ep < 1):=(by simpa using h0);have gh1: ¬ (s.re < e.ep):=(by simpa using h1);have gh2: ¬ (e.ep < s.re):=(by simpa using h2);have gh3: ¬ (e.n < s.nr):=(by simpa using h3);have e:rW s e=false:=(Bool.eq_false_iff.2 fun hh=>by have:=(rX hs he).1 hh;omega);rw[e];simp only[Tryz.results78,h0,h1,h2,h3,fK,aq,Tryz.vr,Value.oneCell',simprocAttr, -List.reduceReplicate];exact aC rfl ⟨rfl,rfl⟩)
def nR (x y:Int):Int:=if x < y then -1 else if y < x then 1 else 0
def Wy (a b:Int):Int:=if a=0 then b else a
theorem Fs (x:Int):cB Tryz.prog 117 [I .u32 x] (B false):=by
 refine aK Tryz.func117 rfl (by kernel_rfl) (by simp[Tryz.ntmps117]) rfl rfl ?_
 simp only[Tryz.results117,Tryz.vs,Value.oneCell',simprocAttr, -List.reduceReplicate]
 simp
theorem vZ (x y:Int):cB Tryz.prog 101 [I .u32 x,I .u32 y] (I .i64 (nR x y)):=by
 refine aK Tryz.func101 rfl (by kernel_rfl) (by simp[Tryz.ntmps101]) rfl rfl ?_
 simp only[Tryz.results101,Tryz.vs,Value.oneCell',simprocAttr, -List.reduceReplicate]
 refine (Fs x).aB ?_
 simp only[Tryz.vr,Value.oneCell',simprocAttr, -List.reduceReplicate]
 refine (Fs y).aB ?_
 simp only[Tryz.vr,Value.oneCell',simprocAttr, -List.reduceReplicate]
 by_cases h1:x < y
 ·simp only[nR,h1,decide_true,Tryz.vr,Value.oneCell',simprocAttr, -List.reduceReplicate]
 ·by_cases h2:y < x
  ·simp only[nR,h1,h2,decide_true,decide_false,Tryz.vr,Value.oneCell',simprocAttr, -List.reduceReplicate]
  ·simp only[nR,h1,h2,decide_true,decide_false,Tryz.vr,Value.oneCell',simprocAttr, -List.reduceReplicate]
theorem alx (a b:Int):bt Tryz.prog 100 [Sl 0 0 2 2] 1 (lk [(0,⟨false,[Sum.inl (.int .i64 a),Sum.inl (.int .i64 b)]⟩)]) (fun v out=>v=I .i64 (Wy a b)∧out=fun _=>none):=by
 refine aE Tryz.func100 rfl (by kernel_rfl) (by simp[Tryz.ntmps100]) Tryz.nw (by simp[AV.ok,CV.ok,SV.names]) eG (eH rfl) ?_
 simp only[Tryz.results100,Tryz.vr,Value.oneCell',simprocAttr, -List.reduceReplicate]
 have w0:IntKind.i64.wrap 1=1:=by decide
 have w1:IntKind.i64.wrap 2=2:=by decide
 by_cases ha:a=0
 ·have da:(a != 0)=false:=by simp[ha]
  by_cases hb:b=0
  ·have db:(b != 0)=false:=by simp[hb]
   refine aG 2 (fun k=>[(3,I .i64 0),(6,Sl 0 0 2 2),(7,I .i64 2),(8,I .i64 k)]) (fun k=>[(0,⟨false,[Sum.inl (.int .i64 a),Sum.inl (.int .i64 b)]⟩)]) _ ?_ ?_ ?_
   ·simp only[Tryz.vr,Value.oneCell',simprocAttr, -List.reduceReplicate]
   ·intro j hj
    have:j=0∨j=1:=by omega
    rcases this with rfl | rfl
    ·simp only[Tryz.vr,Value.oneCell',simprocAttr, -List.reduceReplicate]
     refine aD rfl ?_
     simp only[da,w0,Tryz.vr,Value.oneCell',simprocAttr, -List.reduceReplicate]
    ·simp only[Tryz.vr,Value.oneCell',simprocAttr, -List.reduceReplicate]
     refine aD rfl ?_
     simp only[db,w1,Tryz.vr,Value.oneCell',simprocAttr, -List.reduceReplicate]
   ·simp only[Tryz.vr,Value.oneCell',simprocAttr, -List.reduceReplicate]
    refine aH rfl ?_
    have e:Wy a b=0:=by simp[Wy,ha,hb]
    simp only[e,Tryz.vr,Value.oneCell',simprocAttr, -List.reduceReplicate]
    exact aC rfl ⟨rfl,rfl⟩
  ·have db:(b != 0)=true:=by simp[hb]
   refine aG 1 (fun k=>[(3,I .i64 0),(6,Sl 0 0 2 2),(7,I .i64 2),(8,I .i64 k)]) (fun k=>[(0,⟨false,[Sum.inl (.int .i64 a),Sum.inl (.int .i64 b)]⟩)]) _ ?_ ?_ ?_
   ·simp only[Tryz.vr,Value.oneCell',simprocAttr, -List.reduceReplicate]
   ·intro j hj
    obtain rfl:j=0:=by omega
    simp only[Tryz.vr,Value.oneCell',simprocAttr, -List.reduceReplicate]
    refine aD rfl ?_
    simp only[da,w0,Tryz.vr,Value.oneCell',simprocAttr, -List.reduceReplicate]
   ·simp only[Tryz.vr,Value.oneCell',simprocAttr, -List.reduceReplicate]
    refine aD rfl ?_
    have e:Wy a b=b:=by simp[Wy,ha]
    simp only[db,e,Tryz.vr,Value.oneCell',simprocAttr, -List.reduceReplicate]
    exact aC rfl ⟨rfl,rfl⟩
 ·have da:(a != 0)=true:=by simp[ha]
  refine aG 0 (fun k=>[(3,I .i64 0),(6,Sl 0 0 2 2),(7,I .i64 2),(8,I .i64 k)]) (fun k=>[(0,⟨false,[Sum.inl (.int .i64 a),Sum.inl (.int .i64 b)]⟩)]) _ ?_ ?_ ?_
  ·simp only[Tryz.vr,Value.oneCell',simprocAttr, -List.reduceReplicate]
  ·intro j hj;omega
  ·simp only[Tryz.vr,Value.oneCell',simprocAttr, -List.reduceReplicate]
   refine aD rfl ?_
   have e:Wy a b=a:=by simp[Wy,ha]
   simp only[da,e,Tryz.vr,Value.oneCell',simprocAttr, -List.reduceReplicate]
   exact aC rfl ⟨rfl,rfl⟩
theorem Ug {x y:En} (hx:la x) (hy:la y):(0≤Wy (nR x.ep y.ep) (nR x.n y.n))↔ ¬ (rV x.ep x.n < rV y.ep y.n):=by
 have w1:=hx.ep;have w2:=hx.n;have w3:=hy.ep;have w4:=hy.n
 simp only[HD]at w1 w2 w3 w4
 unfold rV Wy nR
 constructor
 ·intro h h';revert h;split<;>(try split)<;>(try split)<;>(try split)<;>omega
 ·intro h;split<;>(try split)<;>(try split)<;>(try split)<;>omega
theorem Bf (x y:En):cB Tryz.prog 79 [Ag (fQ x),Ag (fQ y)] (I .i64 (Wy (nR x.ep y.ep) (nR x.n y.n))):=by
 refine aK Tryz.func79 rfl (by kernel_rfl) (by simp[Tryz.ntmps79]) (by simp only[List.all_cons,List.all_nil,Bool.and_true];exact Bool.and_eq_true_iff.2 ⟨show List.all (fQ x) SV.plain=true from kg,show List.all (fQ y) SV.plain=true from kg⟩) rfl ?_
 simp only[Tryz.results79,fK,Tryz.vr,Value.oneCell',simprocAttr, -List.reduceReplicate]
 refine ⟨by kernel_rfl, ?_⟩
 refine cB.draw (vZ x.ep y.ep) Tryz.kP ?_
 simp only[fK,Tryz.vr,Value.oneCell',simprocAttr, -List.reduceReplicate]
 refine cB.draw (vZ x.n y.n) Tryz.kP ?_
 have spl: ∀ a b:SV,splice (splice (ae IntKind.i64 2 fun _=>0) 0 [a]) 1 [b]=[a,b]:=fun _ _=>rfl
 simp only[spl,fK,Tryz.vr,Value.oneCell',simprocAttr, -List.reduceReplicate]
 refine ⟨Nat.le_refl 2, ?_⟩
 refine (alx (nR x.ep y.ep) (nR x.n y.n)).en (fun _=>13) (dp (rw:=true) (cs:=[Sum.inl (Value.int IntKind.i64 (nR x.ep y.ep)),Sum.inl (Value.int IntKind.i64 (nR x.n y.n))]) ?_ rfl) rfl rfl (fun M h n _=>h _ (List.Mem.head _)) ?_
 ·simp only[ax]
 simp only[Tryz.vr,Value.oneCell',simprocAttr, -List.reduceReplicate]
end Go.Proofs.YtoakenpcooglpaaGreatDoor
set_option maxHeartbeats 16000000
set_option maxRecDepth 20000
namespace Go.Proofs.YtoakenpcooglpaaGreatDoor
open Go.cA
set_option linter.unusedSectionVars false
variable [aX]
theorem lC {s:St} {f:Nat→En} {j n:Nat} (hj:j < n) (h:Bc s f j=false):kt s f n=false:=by
 induction n with
 | zero=>omega
 | succ n ih=>
  rw[kt]
  by_cases e:j=n
  ·subst e;rw[h,Bool.and_false]
  ·rw[ih (by omega),Bool.false_and]
theorem Zz {M:Nat→Prop} {s:St} {t o n c:Nat} (e:s.store= .inr (.inr (t,o,n,c))) (h:AV.ok M (Ag (bO s))):M t:=by
 have:s.store ∈ bO s:=by simp[bO,oE]
 have:=(h _ this).1
 rw[e]at this;exact this
theorem GR {s:St} {n:Nat} {f:Nat→En} {cs:List SV} (h0:aY 0 s.store n f cs) (hp:cs.all SV.plain=true) (hs:iH s) (hf: ∀ i,la (f i)) (hn:n < 4611686018427387904):
  bt Tryz.prog 58 [Ag (bO s)] 1 (lk [(0,⟨false,cs⟩)]) (fun v out=>v=B (kt s f n)∧out=fun _=>none):=by
 refine aE Tryz.func58 rfl (by kernel_rfl) (by simp[Tryz.ntmps58]) Tryz.qy (fun y hy=>by
  obtain rfl:=List.mem_singleton.1 hy
  exact cO (h0.ok (by decide))) eG (eH hp) ?_
 have fy: ∀ {M:Nat→Prop},(∀ x ∈ cs,SV.ok M x)=True:=eq_true (aJ hp)
 have hl:=h0.len
 simp only[Tryz.results58,hl,aq,Tryz.vr,Value.oneCell',simprocAttr, -List.reduceReplicate]
 refine xS n (fun k=>kt s f k=true) (fun k=>[(1,Ptr 1 0),(6, .inl (.inl s.store)),(7,I .i64 n),(8,I .i64 k)]) (fun k=>[(0,⟨false,cs⟩),(1,⟨true,bO s⟩)]) _ ?_ ?_ ?_
 ·refine ⟨rfl, ?_⟩
  simp only[fy,Tryz.vr,Value.oneCell',simprocAttr, -List.reduceReplicate]
  exact ⟨(h0.ok (M:=fun n=>n < 7) (by decide)).1,cO (h0.ok (by decide))⟩
 ·intro j hj hinv
  have h1:=h0
  rcases h0 with ⟨_,rfl⟩ | ⟨o,c,e,hc,hsh⟩
  ·omega
  have b1:=hsh.lt hj
  simp only[Tryz.vr,Value.oneCell',simprocAttr, -List.reduceReplicate]
  refine aD (by simp;omega) ?_
  simp only[e,bl,dO hj,hsh j hj,b1,fK,aq,Tryz.vr,Value.oneCell',simprocAttr, -List.reduceReplicate]
  refine ⟨by kernel_rfl, ?_⟩
  refine (Zy h1 hp hs (hf j)).en (fun _=>0) (dp (rw:=false) ?_ hp) rfl ?_ (fun M h n _=>Zz e (h _ (List.Mem.head _))) ?_
  ·simp only[af,Tryz.vr,Value.oneCell',simprocAttr, -List.reduceReplicate]
  ·have:AV.bh (fun _=>0) (Ag (bO s))=Ag (bO s):=by rw[gX];rw[e];simp only[SV.bh];rw[← e]
   have h2:AV.bh (fun _=>0) (Ag (fQ (f j)))=Ag (fQ (f j)):=AV.cw (show AV.plain (Ag (fQ (f j)))=true from kg (e:=f j)) _
   simp only[List.map_cons,List.map_nil,this,h2]
  have nb:AV.ok (fun n=>n < 7) (Ag (bO s)):=cO (h1.ok (by decide))
  rcases Bool.eq_false_or_eq_true (rW s (f j)) with p1 | p1
  ·by_cases j0:j=0
   ·have d0:decide (0 < (j:Int))=false:=decide_eq_false (by omega)
    have g1:kt s f (j+1)=true:=by rw[kt,hinv,Bc,p1,decide_eq_true j0];rfl
    simp only[p1,d0,g1,Bool.not_true,bD j (by omega),Tryz.vr,Value.oneCell',simprocAttr, -List.reduceReplicate]
    exact ⟨aJ hp,nb⟩
   ·have d0:decide (0 < (j:Int))=true:=decide_eq_true (by omega)
    have w1:IntKind.i64.wrap ((j:Int) - 1)=((j - 1:Nat):Int):=ac9 j 1 (by omega) (by omega)
    have Wz:j - 1 < n:=by omega
    have b2:=hsh.lt Wz
    simp only[p1,d0,e,w1,bl,dO Wz,hsh (j - 1) Wz,b2,Bool.not_true,fK,aq,Tryz.vr,Value.oneCell',simprocAttr, -List.reduceReplicate]
    refine cB.draw (Bf (f (j - 1)) (f j)) Tryz.qF ?_
    by_cases hc0:rV (f (j - 1)).ep (f (j - 1)).n < rV (f j).ep (f j).n
    ·have d1:decide (0≤Wy (nR (f (j - 1)).ep (f j).ep) (nR (f (j - 1)).n (f j).n))=false:=decide_eq_false fun h=>(Ug (hf _) (hf _)).1 h hc0
     have g1:kt s f (j+1)=true:=by rw[kt,hinv,Bc,p1,decide_eq_true hc0];simp
     simp only[d1,g1,bD j (by omega),Tryz.vr,Value.oneCell',simprocAttr, -List.reduceReplicate]
     exact ⟨aJ hp,nb⟩
    ·have d1:decide (0≤Wy (nR (f (j - 1)).ep (f j).ep) (nR (f (j - 1)).n (f j).n))=true:=decide_eq_true ((Ug (hf _) (hf _)).2 hc0)
     have g1:kt s f n=false:=lC hj (by rw[Bc,decide_eq_false hc0,decide_eq_false j0];simp)
     simp only[d1,g1,Tryz.vr,Value.oneCell',simprocAttr, -List.reduceReplicate]
     exact aC rfl ⟨rfl,rfl⟩
  ·have g1:kt s f n=false:=lC hj (by rw[Bc,p1];rfl)
   simp only[p1,g1,Bool.not_false,Tryz.vr,Value.oneCell',simprocAttr, -List.reduceReplicate]
   exact aC rfl ⟨rfl,rfl⟩
 ·intro hinv
  simp only[Tryz.vr,Value.oneCell',simprocAttr, -List.reduceReplicate]
  refine aH (by simp) ?_
  simp only[hinv,Tryz.vr,Value.oneCell',simprocAttr, -List.reduceReplicate]
  exact aC rfl ⟨rfl,rfl⟩
theorem gS.calls {P:Program} [cA.Tables P] {s:AS} {nm n fn:Nat} {f:Nat→En} {x:St} {w:AV} (h:gS s.box x.store n f) (hw:AV.plain w=true)
  (hm: ∀ (v:SV) (cs:List SV),aY 0 v n f cs→cs.all SV.plain=true→bt P fn [Ag (bO { x with store:=v })] 1 (lk [(0,⟨false,cs⟩)]) (fun u out=>u=w∧out=fun _=>none)) {dst:Option Nat} {K:AS→Prop} (hk:K (s.put dst (some w))):
  aB P nm fn (some [Ag (bO x)]) dst K s:=by
 obtain ⟨t,rw,cs,hb,hp,hi⟩:=h
 obtain ⟨v0,g0,e0⟩:=hi.name (k:=0)
 refine (hm v0 cs g0 hp).dV (fun _=>t) (dp hb hp) hw ?_ hk
 simp only[List.map_cons,List.map_nil,gX,e0 (fun _=>t) rfl]
theorem ZA {s:St} {v:SV} {f:Nat→En} {n:Nat}:kt { s with store:=v } f n=kt s f n:=by
 induction n with
 | zero=>rfl
 | succ n ih=>rw[kt,kt,ih];rfl
theorem Ox {s:St} {v:SV} {f:Nat→En} {n:Nat}:iq { s with store:=v } n f=iq s n f:=by
 unfold iq;rw[ZA];rfl
theorem abF {s:St} {n:Nat} {f:Nat→En} {cs:List SV} (h0:aY 0 s.store n f cs) (hp:cs.all SV.plain=true) (hs:iH s) (hf: ∀ i,la (f i)) (hn:n < 4611686018427387904):
  bt Tryz.prog 31 [Ag (bO s)] 1 (lk [(0,⟨false,cs⟩)]) (fun v out=>v=B (iq s n f)∧out=fun _=>none):=by
 refine aE Tryz.func31 rfl (by kernel_rfl) (by simp[Tryz.ntmps31]) Tryz.qg (fun y hy=>by
  obtain rfl:=List.mem_singleton.1 hy
  exact cO (h0.ok (by decide))) eG (eH hp) ?_
 have Co: ∀ {box:Nat→Option aW},box 0=some ⟨false,cs⟩→gS box s.store n f:=fun hb=>⟨0,false,cs,hb,hp,h0⟩
 simp only[Tryz.results31,aq,Tryz.vr,Value.oneCell',simprocAttr, -List.reduceReplicate]
 refine gS.calls (n:=n) (f:=f) (w:=B (gL s n)) (Co (by simp only[af,Tryz.vr,Value.oneCell',simprocAttr, -List.reduceReplicate])) rfl (fun v cs hv hp=>Zv (s:={ s with store:=v }) hv hp) ?_
 rcases Bool.eq_false_or_eq_true (gL s n) with b1 | b1
 rotate_left 1
 ·simp only[iq,b1,Bool.false_and,aq,Tryz.vr,Value.oneCell',simprocAttr, -List.reduceReplicate]
  exact aC rfl ⟨rfl,rfl⟩
 have fin: ∀ {t:AS} {b:Bool},b=iq s n f→Ct 1 (fun v out=>v=B (iq s n f)∧out=fun _=>none) (B b) t:=fun e=>aC rfl ⟨by rw[e],rfl⟩
 rcases Bool.eq_false_or_eq_true s.own with b2 | b2
 rotate_left 1
 rcases Bool.eq_false_or_eq_true s.peer with b3 | b3
 rotate_left 1
 ·simp only[b1,b2,b3,aq,Tryz.vr,Value.oneCell',simprocAttr, -List.reduceReplicate]
  exact fin (by simp[iq,b2,b3])
 all_goals
  simp only[b1,b2,aq,Tryz.vr,Value.oneCell',simprocAttr, -List.reduceReplicate]
  try simp only[b3,aq,Tryz.vr,Value.oneCell',simprocAttr, -List.reduceReplicate]
  refine gS.calls (n:=n) (f:=f) (w:=B (cY s)) (Co (by simp only[af,Tryz.vr,Value.oneCell',simprocAttr, -List.reduceReplicate])) rfl (fun v cs hv hp=>Zw (s:={ s with store:=v }) hv hp) ?_
  rcases Bool.eq_false_or_eq_true (cY s) with b4 | b4
  rotate_left 1
  ·simp only[b4,aq,Tryz.vr,Value.oneCell',simprocAttr, -List.reduceReplicate]
   exact fin (by simp[iq,b4])
  simp only[b4,aq,Tryz.vr,Value.oneCell',simprocAttr, -List.reduceReplicate]
  refine gS.calls (n:=n) (f:=f) (w:=B (dT s)) (Co (by simp only[af,Tryz.vr,Value.oneCell',simprocAttr, -List.reduceReplicate])) rfl (fun v cs hv hp=>VG (s:={ s with store:=v }) hv hp) ?_
  rcases Bool.eq_false_or_eq_true (dT s) with b5 | b5
  rotate_left 1
  ·simp only[b5,aq,Tryz.vr,Value.oneCell',simprocAttr, -List.reduceReplicate]
   exact fin (by simp[iq,b5])
  simp only[b5,aq,Tryz.vr,Value.oneCell',simprocAttr, -List.reduceReplicate]
  refine gS.calls (n:=n) (f:=f) (w:=B (mW s)) (Co (by simp only[af,Tryz.vr,Value.oneCell',simprocAttr, -List.reduceReplicate])) rfl (fun v cs hv hp=>Zx (s:={ s with store:=v }) hv hp) ?_
  rcases Bool.eq_false_or_eq_true (mW s) with b6 | b6
  rotate_left 1
  ·simp only[b6,aq,Tryz.vr,Value.oneCell',simprocAttr, -List.reduceReplicate]
   exact fin (by simp[iq,b6])
  simp only[b6,aq,Tryz.vr,Value.oneCell',simprocAttr, -List.reduceReplicate]
  refine gS.calls (n:=n) (f:=f) (w:=B (kt s f n)) (Co (by simp only[af,Tryz.vr,Value.oneCell',simprocAttr, -List.reduceReplicate])) rfl (fun v cs hv hp=>by have:=GR (s:={ s with store:=v }) hv hp (hs.ws v) hf hn;rwa [ZA]at this) ?_
  simp only[aq,Tryz.vr,Value.oneCell',simprocAttr, -List.reduceReplicate]
  exact fin (by simp[iq,b1,b2,b4,b5,b6, *])
end Go.Proofs.YtoakenpcooglpaaGreatDoor
namespace Go.cA
set_option linter.unusedSectionVars false
def iI (x:Int) (j:Nat):Int:=IntKind.u8.wrap (cr .u32 x (24 - 8*(j:Int)))
theorem Bg (x:Int):bY (iI x):=fun i=>by simp only[iI,wrap_u8];omega
theorem aly {g:Nat→Int}:ae .u8 4 g=[Sum.inl (.int .u8 (g 0)),Sum.inl (.int .u8 (g 1)),Sum.inl (.int .u8 (g 2)),Sum.inl (.int .u8 (g 3))]:=rfl
theorem af7 {g:Nat→Int} {a:SV}:splice (ae .u8 4 g) 0 [a]=[a,Sum.inl (.int .u8 (g 1)),Sum.inl (.int .u8 (g 2)),Sum.inl (.int .u8 (g 3))]:=rfl
theorem af8 {a x b c d:SV}:splice [a,x,c,d] 1 [b]=[a,b,c,d]:=rfl
theorem af9 {a b x c d:SV}:splice [a,b,x,d] 2 [c]=[a,b,c,d]:=rfl
theorem af' {a b c x d:SV}:splice [a,b,c,x] 3 [d]=[a,b,c,d]:=rfl
theorem aga {g:Nat→Int}:bE [Sum.inl (.int .u8 (g 0)),Sum.inl (.int .u8 (g 1)),Sum.inl (.int .u8 (g 2)),Sum.inl (.int .u8 (g 3))] 0 4 g:=fun i hi=>by
 rw[← aly];exact aP i hi
theorem abG {α:Type} {Q:α→Prop} {a0:α} (h0:Q a0): ∀ x ∈ [a0],Q x:=fun x hx=>by
 simp only[List.mem_cons,List.not_mem_nil,or_false]at hx
 subst hx
 exact h0
theorem ajk {α:Type} {Q:α→Prop} {a0 a1:α} (h0:Q a0) (h1:Q a1): ∀ x ∈ [a0,a1],Q x:=fun x hx=>by
 simp only[List.mem_cons,List.not_mem_nil,or_false]at hx
 rcases hx with rfl | rfl
 ·exact h0
 ·exact h1
theorem ajl {α:Type} {Q:α→Prop} {a0 a1 a2:α} (h0:Q a0) (h1:Q a1) (h2:Q a2): ∀ x ∈ [a0,a1,a2],Q x:=fun x hx=>by
 simp only[List.mem_cons,List.not_mem_nil,or_false]at hx
 rcases hx with rfl | rfl | rfl
 ·exact h0
 ·exact h1
 ·exact h2
theorem agb {α:Type} {Q:α→Prop} {a0 a1 a2 a3:α} (h0:Q a0) (h1:Q a1) (h2:Q a2) (h3:Q a3): ∀ x ∈ [a0,a1,a2,a3],Q x:=fun x hx=>by
 simp only[List.mem_cons,List.not_mem_nil,or_false]at hx
 rcases hx with rfl | rfl | rfl | rfl
 ·exact h0
 ·exact h1
 ·exact h2
 ·exact h3
theorem agc {s:AS} {k:Nat} {P Q:AV→(Nat→Option aW)→Prop} {v:AV} (h:Ct k P v s) (hi: ∀ v out,P v out→Q v out):Ct k Q v s:=by
 obtain ⟨q,v0,out,h1,h2,h3,h4,h5⟩:=h
 exact ⟨q,v0,out,h1,h2,h3,h4,hi _ _ h5⟩
theorem dw.cell {cs:List SV} {o n:Nat} {f:Nat→En} (h:dw cs o n f) {i k:Nat} (hi:i < n) (hk:k < 66):cs[o+i*66+k]? =(fQ (f i))[k]? :=by
 rw[← h i hi,List.getElem?_take_of_lt hk,List.getElem?_drop]
theorem dw.ep {cs:List SV} {o n:Nat} {f:Nat→En} (h:dw cs o n f) {i:Nat} (hi:i < n):cs[o+i*66]? =some (Sum.inl (.int .u32 (f i).ep)):=h.cell (k:=0) hi (by decide)
theorem dw.num {cs:List SV} {o n:Nat} {f:Nat→En} (h:dw cs o n f) {i:Nat} (hi:i < n):cs[o+i*66+1]? =some (Sum.inl (.int .u32 (f i).n)):=h.cell (k:=1) hi (by decide)
theorem dw.cQ {cs:List SV} {o n:Nat} {f:Nat→En} (h:dw cs o n f) {i:Nat} (hi:i < n):bE cs (o+i*66+2) 32 (f i).cQ:=fun j hj=>by
 have:=h.cell (k:=2+j) hi (by omega)
 rw[af5 j hj]at this
 rw[← this];congr 1;omega
theorem dw.key {cs:List SV} {o n:Nat} {f:Nat→En} (h:dw cs o n f) {i:Nat} (hi:i < n):bE cs (o+i*66+34) 32 (f i).key:=fun j hj=>by
 have:=h.cell (k:=34+j) hi (by omega)
 rw[abE j hj]at this
 rw[← this];congr 1;omega
def K6 (a b c d e f:Nat→Int):List SV:=ae .u8 32 a++(ae .u8 32 b++(ae .u8 32 c++(ae .u8 32 d++(ae .u8 32 e++ae .u8 32 f))))
section
variable {a b c d e f g:Nat→Int}
end
end Go.cA
namespace Go.cA
set_option linter.unusedSectionVars false
section
variable {P:Program} [Tables P] {W:Nat→Prop} {N:Nat} {w0:gF P} {g:bG} {s:AS} {a:Act} {w:World}
theorem VH {body:(Exit→AS→Prop)→AS→Prop} {F:Exit→AS→Prop} (hmono: ∀ (K K':AS→Prop) t,(∀ s,K s→K' s)→body (fi K F) t→body (fi K' F) t) (n:Nat) (Inv:Nat→AS→Prop) (hnext: ∀ k t,Inv k t→s.next≤t.next)
  (h0: ∃ t,Inv 0 t∧wv s.next s t) (hstep: ∀ k t,k < n→Inv k t→body (fi (fun s'=> ∃ t',Inv (k+1) t'∧wv s.next s' t') F) t) (hend: ∀ t,Inv n t→body (fi (fun _=>False) F) t):jJ body F s:=by
 obtain ⟨t0,wH,Zp⟩:=h0
 refine ⟨{ y:Nat×AS // y.1≤n∧Inv y.1 y.2 },fun y=>y.1.2,fun y=>n - y.1.1,⟨(0,t0),Nat.zero_le _,wH⟩,Zp,fun y=>hnext _ _ y.2.2,fun y=> ?_⟩
 obtain ⟨⟨k,t⟩,h1,h2⟩:=y
 rcases Nat.lt_or_ge k n with h | h
 ·refine hmono _ _ _ (fun s' hs=> ?_) (hstep k t h h2)
  obtain ⟨t',hi,hr⟩:=hs
  exact ⟨⟨(k+1,t'),h,hi⟩,by show n - (k+1) < n - k;omega,hr⟩
 ·have e:k=n:=Nat.le_antisymm h1 h
  subst e
  exact hmono (fun _=>False) _ _ (fun s' hs=>False.elim hs) (hend t h2)
theorem ZB {c:Code} {F:Exit→AS→Prop} (n:Nat) (Inv:Nat→AS→Prop) (hnext: ∀ k t,Inv k t→s.next≤t.next)
  (h0: ∃ t,Inv 0 t∧wv s.next s t) (hstep: ∀ k t,k < n→Inv k t→vc P c (fi (fun s'=> ∃ t',Inv (k+1) t'∧wv s.next s' t') F) t) (hend: ∀ t,Inv n t→vc P c (fi (fun _=>False) F) t):jJ (vc P c) F s:=
 VH (fun K K' t h hv=>fU c _ _ (fun e s hs=>by
  cases e with
  | normal=>exact h s hs
  | _=>exact hs) t hv) n Inv hnext h0 hstep hend
theorem nS {f:Nat} {fn:Func} {c:Code} (hf:P.funcs[f]? =some fn) (hb:fn.body=some c) {args:List AV} {box:Nat→Option aW} {n:Nat}
  (hlen:args.length≤fn.ntmps) (hlaid:Laid P w) (ko: ∀ b bx,Tables.row P b=some bx→ ¬ W b) (hn:Names (fun k=>k < n) (start args box n)) (hm:eX g (start args box n) w) (hown: ∀ t b,box t=some b→b.rw=true→W (g t).1)
  {Post:AV→AS→Prop} (hv: ∀ (w0:gF P),w0.pn≤n→Sound P W fn.ntmps w0 c (kY P fn.results.toList Post) (start args box n)):
  Calls P f (args.map (AV.av g)).toArray w fun e w'=> ∃ v g' s',e= .returned (AV.av g' v)∧Post v s'∧AV.ok (fun k=>k < s'.next) v∧(∀ k,k < n→k < s'.next∧g' k=g k)∧eX g' s' w'∧Names (fun k=>k < s'.next) s'∧
   (∀ t b,s'.box t=some b→b.rw=true→w.heap.size≤(g' t).1∨W (g' t).1)∧Frame W w w':=by
 refine calls_of_wp hf hb ?_
 refine hv ⟨w,n,g,hlaid⟩ (Nat.le_refl n) g _ w _ ⟨?_,rfl, ?_,hn,hm,fun t b hb hrw=>Or.inr (hown t b hb hrw),Frame.refl _ _,fun k hk=>⟨hk,rfl⟩,ko⟩ ?_
 ·simp;omega
 ·intro d v hd
  simp only[start]at hd
  have hlt:d < args.length:=(List.getElem?_eq_some_iff.1 hd).1
  rw[Array.getElem?_append_left (by simpa using hlt)]
  simp[hd]
 ·intro e g' s' a' w' h' hk
  have fin:sV (jQ (fZ P s' fn.results.toList)) Post s'→ ∃ v,(results fn a'.tmps).run P w'= .ok (AV.av g' v) w'∧Post v s'∧AV.ok (fun k=>k < s'.next) v:=fun hr=>by
   unfold sV at hr
   split at hr
   ·rename_i v hv
    obtain ⟨h1,h2⟩:=j5 h' hv
    exact ⟨v,h1,hr,h2⟩
   ·exact hr.elim
  cases e<;>simp only[kY]at hk
  ·obtain ⟨v,h1,h2,h3⟩:=fin hk
   exact ⟨h'.defers,_,h1,v,g',s',rfl,h2,h3,h'.kJ,h'.mem,h'.names,h'.own,h'.frame⟩
  ·obtain ⟨v,h1,h2,h3⟩:=fin hk
   exact ⟨h'.defers,_,h1,v,g',s',rfl,h2,h3,h'.kJ,h'.mem,h'.names,h'.own,h'.frame⟩
theorem Cx {f:Nat} {fn:Func} {c:Code} (hf:P.funcs[f]? =some fn) (hb:fn.body=some c) {args:List AV} {k:Nat} {ins:Nat→Option aW}
  (hlen:args.length≤fn.ntmps) (hc:ai P f=true) (hargs: ∀ v ∈ args,AV.ok (fun n=>n < k) v) (hall: ∀ n,n < k→ ∃ b,ins n=some b) (j6: ∀ n b,ins n=some b→n < k∧ ∀ x ∈ b.cells,SV.ok (fun n=>n < k) x)
  {Post:AV→(Nat→Option aW)→Prop} (hv: ∀ (W:Nat→Prop) (w0:gF P),w0.pn≤k→Sound P W fn.ntmps w0 c (kY P fn.results.toList (Ct k Post)) (start args ins k)):bt P f args k ins Post:=by
 refine ⟨hc,hall,fun n b hb=>(j6 n b hb).1,fun W g w hlaid ko hm hown=> ?_⟩
 refine (nS (W:=W) (g:=g) (w:=w) hf hb hlen hlaid ko ⟨fun d v hd=> ?_,fun t b ht=>j6 t b ht⟩ ⟨hm.lt,hm.cell,hm.free,hm.sep⟩ hown (hv W)).mono ?_
 ·simp only[start]at hd
  exact hargs v (List.mem_of_getElem? hd)
 ·rintro e w' ⟨v,g',s',rfl,⟨q,v0,out,hq,rfl,Vs,hout,hpost⟩,_,Gl,hmem,NH,xN,hfr⟩
  have hr: ∀ n,n < k→mH k q n=n:=fun n hn=>by unfold mH;rw[if_neg (by omega)]
  have hinj: ∀ n n',n < k+1→n' < k+1→mH k q n=mH k q n'→n=n':=fun n n' h1 h2 e=>by
   unfold mH at e
   split at e<;>split at e<;>omega
  refine ⟨v0,out,fun n=>g' (mH k q n),by rw[AV.cP],hpost,fun n hn=> ?_,Vs,fun n b hb=> ?_,⟨fun t b hb=> ?_,fun t b hb i v hv=> ?_,fun t b hb hrw i hi=> ?_,fun t t' b b' hb hrw hb' hne=> ?_⟩,fun t b hb hrw=> ?_,hfr⟩
  ·show g' (mH k q n)=_
   rw[hr n hn];exact (Gl n hn).2
  ·obtain ⟨h1,h2,h3,_⟩:=hout n b hb
   exact ⟨h1,h2,h3⟩
  ·obtain ⟨h1,_,_,b',h2,_⟩:=hout t b hb
   exact hmem.lt _ b' h2
  ·obtain ⟨h1,_,_,b',h2,_,h4⟩:=hout t b hb
   have:=hmem.cell _ b' h2 i (SV.bh (mH k q) v) (by rw[h4];simp[hv])
   rw[this,SV.cP]
  ·obtain ⟨h1,_,_,b',h2,h3,h4⟩:=hout t b hb
   exact hmem.free _ b' h2 (h3 hrw) i (by rw[h4];simpa using hi)
  ·obtain ⟨h1,_,_,c1,h2,h3,_⟩:=hout t b hb
   obtain ⟨h1',_,_,c2,h2',_,_⟩:=hout t' b' hb'
   exact hmem.sep _ _ c1 c2 h2 (h3 hrw) h2' (fun e=>hne (hinj _ _ h1 h1' e))
  ·obtain ⟨h1,_,_,b',h2,h3,_⟩:=hout t b hb
   exact xN _ b' h2 (h3 hrw)
end
structure df (cs:List SV) (o n c:Nat) (f:Nat→En):Prop where
 len:cs.length=o+c*66
 room:n≤c
 plain:cs.all SV.plain=true
 ez:dw cs o n f
theorem df.row {n c:Nat} {f:Nat→En} {tail:List SV} (hc:n≤c) (hl:tail.length=(c - n)*66) (hp:tail.all SV.plain=true):df (iG n f++tail) 0 n c f:=
 ⟨by rw[List.length_append,jD,hl, ← Nat.add_mul];congr 1;omega,hc,by rw[List.all_append,qT,hp];rfl,Bb⟩
theorem mr {cs:List SV} {o n:Nat} {f:Nat→En} (h:dw cs o n f): ∀ j u,(iG n f)[j]? =some u→cs[o+j]? =some u:=fun j u hj=>by
 rw[← LO h]at hj
 rw[List.getElem?_take]at hj
 split at hj
 ·rwa [List.getElem?_drop]at hj
 ·cases hj
theorem VI {n m:Nat} {f g:Nat→En}:iG n f++iG m g=iG (n+m) (fun i=>if i < n then f i else g (i - n)):=by
 induction m with
 | zero=>rw[iG,List.append_nil,Nat.add_zero];exact Oo fun i hi=>by rw[if_pos hi]
 | succ m ih=>rw[iG, ← List.append_assoc,ih, ← Nat.add_assoc,iG,if_neg (by omega),show n+m - n=m by omega]
section
variable {P:Program} [Tables P]
def skZ:List Value:=List.replicate 2 (Value.int IntKind.u32 0)++List.replicate 64 (Value.int IntKind.u8 0)
theorem GU:skZ.all Value.oneCell'=true:=by decide
theorem rY {t tx lM:Nat} (hk:ru P t=some (skZ,66,lM)) (hx:ln P tx=some (none,66)) {s:AS} {nm b u o o' n c m c0:Nat} {f g:Nat→En} {rw:Bool} {cs ds:List SV} (hb:s.box b=some ⟨true,cs⟩) (hg:df cs o n c f) (hb':s.box u=some ⟨rw,ds⟩) (hne:b≠u) (hs:dw ds o' m g)
  (hby:(n+m)*lM≤140737488355328) (h63:n+m≤9223372036854775807) {ty:TypeId} {ct:Array Bool} {dst:Option Nat} {K:AS→Prop}
  (hK: ∀ c' cs',df cs' 0 (n+m) c' (fun i=>if i < n then f i else g (i - n))→K ((⟨s.env,upd (upd s.box b none) nm (some ⟨true,cs'⟩),s.next⟩:AS).put dst (some (Sl nm 0 (n+m) c')))):
  cC P nm .append #[t,tx] ty ct (some [Sl b o n c,Sl u o' m c0]) dst K s:=by
 refine hH (olds:=iG n f) (news:=iG m g) (sz:=66) hk hx rfl (by decide) GU hb hg.len hg.room jD (mr hg.ez) hg.plain (.inl ⟨u,o',c0,_,rfl,hb',jD,mr hs,by simpa using hne⟩) h63 hby (fun c' tail h1 h2 h3=> ?_)
 rw[VI]
 exact hK c' _ (df.row h1 h2 h3)
theorem Ft {t tx lM:Nat} (hk:ru P t=some (skZ,66,lM)) (hx:ln P tx=some (none,66)) {s:AS} {nm b o n c:Nat} {f:Nat→En} {ad:Option Addr} {cs:List SV} (hb:s.box b=some ⟨true,cs⟩) (hg:df cs o n c f)
  (hby:n*lM≤140737488355328) (h63:n≤9223372036854775807) {ty:TypeId} {ct:Array Bool} {dst:Option Nat} {K:AS→Prop}
  (hK: ∀ c' cs',df cs' 0 n c' f→K ((⟨s.env,upd (upd s.box b none) nm (some ⟨true,cs'⟩),s.next⟩:AS).put dst (some (Sl nm 0 n c')))):
  cC P nm .append #[t,tx] ty ct (some [Sl b o n c,V (.slice ad 0 0)]) dst K s:=by
 refine hH (m:=0) (olds:=iG n f) (news:=[]) (sz:=66) hk hx rfl (by decide) GU hb hg.len hg.room jD (mr hg.ez) hg.plain (.inr ⟨⟨ad,rfl⟩,rfl,rfl⟩) (by omega) (by omega) (fun c' tail h1 h2 h3=> ?_)
 rw[List.append_nil]
 exact hK c' _ (df.row h1 h2 h3)
end
end Go.cA
namespace Go.cA
set_option linter.unusedSectionVars false
def LQ (k N:Nat) (f:Nat→En) (sv:SV) (out:Nat→Option aW):Prop:=
 (N=0∧sv= .inl (.slice none 0 0)∧out=fun _=>none)∨(0 < N∧ ∃ c cs,sv= .inr (.inr (k,0,N,c))∧df cs 0 N c f∧out=lk [(k,⟨true,cs⟩)])
theorem tw {k n:Nat} {b b':aW} (h:lk [(k,b)] n=some b'):n=k∧b'=b:=by
 simp only[lk]at h
 split at h
 ·rename_i e;simp only[Option.some.injEq]at h;exact ⟨e,h.symm⟩
 ·cases h
theorem agd {s:AS} {k q o n c:Nat} {x:St} {cs:List SV} {Post:AV→(Nat→Option aW)→Prop} (hq:k≤q) (hb:s.box q=some ⟨true,cs⟩) (hp:cs.all SV.plain=true)
  (h:Post (Ag (bO { x with store:= .inr (.inr (k,o,n,c)) })) (lk [(k,⟨true,cs⟩)])):Ct k Post (Ag (bO { x with store:= .inr (.inr (q,o,n,c)) })) s:=by
 refine ⟨q,Ag (bO { x with store:= .inr (.inr (k,o,n,c)) }),lk [(k,⟨true,cs⟩)],hq, ?_,cO ⟨Nat.lt_succ_self k,rfl⟩,fun m b hm=> ?_,h⟩
 ·rw[gX];simp only[SV.bh,kM]
 ·obtain ⟨rfl,rfl⟩:=tw hm
  exact ⟨Nat.lt_succ_self _,fun _=>rfl,aJ hp,⟨true,cs⟩,by rw[kM];exact hb,fun h=>h,(bj hp _).symm⟩
theorem abH:(0 < (List.replicate 2 (Value.int IntKind.u32 0)++List.replicate 64 (Value.int IntKind.u8 0)).length)=True:=eq_true (by decide)
theorem df.congr {cs:List SV} {o n m c:Nat} {f g:Nat→En} (h:df cs o n c f) (e:n=m) (hfg: ∀ i,i < n→f i=g i):df cs o m c g:=
 ⟨h.len,e▸h.room,h.plain,e▸GN h.ez hfg⟩
abbrev zEs:List Value:=List.replicate 2 (Value.int IntKind.u32 0)++List.replicate 64 (Value.int IntKind.u8 0)
theorem zL0:iw zEs 0=[]:=rfl
theorem ZC:iw zEs 132=fQ qS++fQ qS:=by rfl
theorem LR:(fQ qS++fQ qS).length=132:=by rw[List.length_append,fu]
theorem ZD:splice (fQ qS++fQ qS) 0 (fQ qS)=fQ qS++fQ qS:=by
 unfold splice;rw[List.take_zero,List.nil_append,Nat.zero_add,List.drop_left]
theorem ZE:splice (fQ qS++fQ qS) 66 (fQ qS)=fQ qS++fQ qS:=by
 unfold splice;rw[List.take_left' fu,List.drop_eq_nil_of_le (by rw[List.length_append,fu];omega),List.append_nil]
theorem qU:dw (fQ qS++fQ qS) 0 2 (fun _=>qS):=fun i hi=>by
 have:i=0∨i=1:=by omega
 rcases this with rfl | rfl
 ·rw[Nat.zero_mul,List.drop_zero,List.take_left' fu]
 ·show List.take 66 (List.drop 66 _)=_
  rw[List.drop_left' fu,wK]
theorem Oy:(fQ qS++fQ qS).all SV.plain=true:=by rw[List.all_append,kg];rfl
def Bh (k n c:Nat):List SV:=[.inr (.inr (k,0,n+2,c)), .inl (.int .i64 n)]
abbrev shV (k n c:Nat):AV:=Ag (Bh k n c)
def mK (n:Nat) (f:Nat→En) (i:Nat):En:=if i < n then f i else qS
def ZF (k n:Nat) (f:Nat→En) (v:AV) (out:Nat→Option aW):Prop:= ∃ c cs,v=shV k n c∧df cs 0 (n+2) c (mK n f)∧out=lk [(k,⟨true,cs⟩)]
theorem Oz {P:Program} [Tables P] {s:AS} {fn t n nm:Nat} {f:Nat→En} {args l:List AV} {rw:Bool} {cs:List SV} (h:bt P fn args 1 (lk [(0,⟨false,cs⟩)]) (ZF 1 n f)) (hb:s.box t=some ⟨rw,cs⟩) (hp:cs.all SV.plain=true) (hl:l=args.map (AV.bh fun _=>t)) {dst:Option Nat} {K:AS→Prop}
  (hk: ∀ c ds,df ds 0 (n+2) c (mK n f)→K ((⟨s.env,upd s.box nm (some ⟨true,ds⟩),s.next⟩:AS).put dst (some (shV nm n c)))):aB P nm fn (some l) dst K s:=by
 refine h.aB (fun _=>t) none (dp hb hp) hl ?_
 rintro v out ⟨c,ds,rfl,hg,rfl⟩ _
 rw[gb hg.plain]
 have e:AV.bh (fb (fun _=>t) 1 nm) (shV 1 n c)=shV nm n c:=by
  show AV.bh _ (.inl (.inr _))=_
  simp only[AV.bh,CV.bh,Bh,List.map_cons,List.map_nil,SV.bh,iB]
  rfl
 rw[e]
 exact hk c ds hg
theorem Fu {s:AS} {k q n c:Nat} {f:Nat→En} {cs:List SV} (hq:k≤q) (hb:s.box q=some ⟨true,cs⟩) (hg:df cs 0 (n+2) c (mK n f)):Ct k (ZF k n f) (Ag [.inr (.inr (q,0,n+2,c)), .inl (.int .i64 n)]) s:=by
 refine ⟨q,shV k n c,lk [(k,⟨true,cs⟩)],hq, ?_,fun y hy=> ?_,fun m b hm=> ?_,c,cs,rfl,hg,rfl⟩
 ·show _=AV.bh _ (.inl (.inr _))
  simp only[AV.bh,CV.bh,Bh,List.map_cons,List.map_nil,SV.bh,kM]
 ·simp only[Bh,List.mem_cons,List.not_mem_nil,or_false]at hy
  rcases hy with rfl | rfl
  ·exact ⟨Nat.lt_succ_self k,rfl⟩
  ·exact ⟨trivial,rfl⟩
 ·obtain ⟨rfl,rfl⟩:=tw hm
  exact ⟨Nat.lt_succ_self _,fun _=>rfl,aJ hg.plain,⟨true,cs⟩,by rw[kM];exact hb,fun h=>h,(bj hg.plain _).symm⟩
theorem Fv {cs:List SV} {p q:Nat} {x:SV} (hp:p < cs.length):(splice cs p [x])[q]? =if q=p then some x else cs[q]? :=by
 unfold splice
 have l1:(cs.take p).length=p:=by rw[List.length_take];omega
 rcases Nat.lt_trichotomy q p with h | h | h
 ·rw[if_neg (by omega),List.append_assoc,List.getElem?_append_left (by omega),List.getElem?_take_of_lt h]
 ·subst h
  rw[if_pos rfl,List.append_assoc,List.getElem?_append_right (by omega),l1,Nat.sub_self];rfl
 ·rw[if_neg (by omega),List.getElem?_append_right (by rw[List.length_append,l1];simp;omega),List.length_append,l1,List.length_singleton,List.getElem?_drop]
  congr 1;omega
theorem age {cs:List SV} {n j:Nat} {g:Nat→En} {x:Int} (h:dw cs 0 n g) (hj:j < n):dw (splice cs (j*66+1) [Sum.inl (.int .u32 x)]) 0 n (upd g j { g j with n:=x }):=fun i hi=>by
 have b:=h.lt hj
 apply List.ext_getElem?
 intro q
 by_cases hq:q < 66
 ·rw[List.getElem?_take_of_lt hq,List.getElem?_drop,Fv (by omega)]
  have e:=h.cell hi hq
  by_cases e1:i=j
  ·subst e1
   rw[ax, ← Ou,Fv (by rw[fu];decide)]
   by_cases e2:q=1
   ·subst e2;rw[if_pos (by omega),if_pos rfl]
   ·rw[if_neg (by omega),if_neg e2];exact e
  ·rw[bg _ _ _ _ e1,if_neg (by omega)];exact e
 ·rw[List.getElem?_eq_none (by rw[List.length_take];omega),List.getElem?_eq_none (by rw[fu];omega)]
theorem GV {cs:List SV} {p:Nat} {l:List SV} (h:cs.all SV.plain=true) (hl:l.all SV.plain=true):(splice cs p l).all SV.plain=true:=by
 unfold splice
 rw[List.all_append,List.all_append,hl]
 have a:(cs.take p).all SV.plain=true:=List.all_eq_true.2 fun x hx=>List.all_eq_true.1 h x (List.mem_of_mem_take hx)
 have b:(cs.drop (p+l.length)).all SV.plain=true:=List.all_eq_true.2 fun x hx=>List.all_eq_true.1 h x (List.mem_of_mem_drop hx)
 rw[a,b];rfl
theorem LS {cs:List SV} {p:Nat} {x:SV} (h:p < cs.length):(splice cs p [x]).length=cs.length:=by
 unfold splice;simp;omega
theorem mk2 {nm:Nat}:ix nm (some (zEs,66,72)) (some (I .i64 2)) (some (I .i64 2))=some (some (Sl nm 0 2 2),some (.inl (fQ qS++fQ qS))):=by
 show (if (0≤(2:Int)∧(2:Int)≤2∧((72:Nat):Int)*2≤281474976710656∧(2:Int)≤9223372036854775807)∧(0 < zEs.length∧zEs.all Value.oneCell'=true) then some (some (Sl nm 0 2 2),some (Sum.inl (iw zEs 132))) else none:Option dE)=_
 rw[if_pos ⟨by decide,by decide,by decide⟩,ZC]
theorem aeJ {a b x:SV}:splice [a,b] 0 [x]=[x,b]:=rfl
theorem aeK {a b x:SV}:splice [a,b] 1 [x]=[a,x]:=rfl
theorem jU {a b x y:SV}:splice [a,b] 0 [x,y]=[x,y]:=rfl
theorem nT {n c:Nat} {f:Nat→En} {cs:List SV} (h:df cs 0 (n+2) c (mK n f)):dw cs 0 n f:=fun i hi=>by
 rw[h.ez i (by omega),mK,if_pos hi]
theorem OA {n c:Nat} {f:Nat→En} {cs:List SV} (h:df cs 0 (n+2) c (mK n f)):dw cs (n*66) 2 (fun _=>qS):=fun i hi=>by
 have:=h.ez (n+i) (by omega)
 rw[mK,if_neg (by omega)]at this
 rw[← this];congr 2;rw[Nat.add_mul];omega
end Go.cA
namespace Go.cA
set_option linter.unusedSectionVars false
def LU (f g:Nat→Int):Prop:= ∀ i,i < 32→f i=g i
structure EqS (s t:St):Prop where
 own:s.own=t.own
 peer:s.peer=t.peer
 has:s.has=t.has
 root:LU s.root t.root
 priv:LU s.priv t.priv
 cQ:LU s.cQ t.cQ
 rU:LU s.rU t.rU
 send:LU s.send t.send
 recv:LU s.recv t.recv
 se:s.se=t.se
 re:s.re=t.re
 ns:s.ns=t.ns
 nr:s.nr=t.nr
 pn:s.pn=t.pn
 skip:s.skip=t.skip
 room:s.room=t.room
structure EqE (d e:En):Prop where
 ep:d.ep=e.ep
 n:d.n=e.n
 cQ:LU d.cQ e.cQ
 key:LU d.key e.key
section
variable {s:St} {n:Nat} {f:Nat→En}
end
end Go.cA
namespace Go.cA
set_option linter.unusedSectionVars false
def bZ (P:Program) [Tables P] (nm f:Nat) (xs:Option (List AV)) (dst:Option Nat) (K:AS→Prop) (s:AS):Prop:=match xs with
 | none=>False
 | some l=> ∀ (W:Nat→Prop) (N:Nat) (w0:gF P) (g:bG) (a:Act) (w:World),cE W N w0 (fun n=>n < nm) g s a w→
   Calls P f (l.map (AV.av g)).toArray w fun e w'=> ∃ v g' bx,e= .returned (AV.av g' v)∧AV.ok (fun n=>n < nm+4) v∧cE W N w0 (fun n=>n < nm+4) g' { s with box:=bx } a w'∧
    (∀ t b,bx t=some b→b.rw=true∨ ∃ b0,s.box t=some b0∧g' t=g t)∧K (({ s with box:=bx }:AS).put dst (some v))
def Bi (P:Program) [Tables P] (nm:Nat) (o:Oper) (K:AS→Prop) (s:AS):Prop:=match o.op with
 | .call ⟨.value (.func f),xs,_⟩=>if ai P f=true then bZ P nm f (bN s xs.toList) o.dst K s else mF P f (bN s xs.toList) o.dst K s
 | _=>cv P nm o K s
def fL (P:Program) [Tables P] (ops:Array Oper) (base:Nat) (K:AS→Prop):List Nat→Nat→AS→Prop
 | [],k,s=>K { s with next:=base+4*(k+1) }
 | i::r,k,s=>match ops[i]? with
  | some o=>Bi P (base+4*(k+1)) o (fL P ops base K r (k+1)) s
  | none=>False
def isPure (o:Op):Bool:=match o with
 | .move _ | .load .. | .fieldAddr .. | .nilCheck _ | .field .. | .index .. | .indexAddr .. | .build .. | .extract .. | .binOp .. | .unOp .. =>true
 | _=>false
def LV (o:Op):Bool:=match o with
 | .call ⟨.value (.func _),_,_⟩=>true
 | _=>false
def Fw (o:Op):Bool:=match o with
 | .alloc _=>true
 | _=>false
def mv (P:Program) [Tables P] (ops:Array Oper) (nm:Nat) (K:AS→Prop):List Nat→AS→Prop
 | [],s=>K s
 | i::r,s=>match ops[i]? with
  | some o=>cv P nm o (mv P ops nm K r) s
  | none=>False
def ZG (b:Option aW):Option aW:=match b with
 | some ⟨false,cs⟩=>some ⟨false,cs⟩
 | _=>none
def WA (dm:List Nat) (box:Nat→Option aW) (t:Nat):Option aW:=if dm.contains t=true then (match box t with
 | some b=>some ⟨false,b.cells⟩
 | none=>none) else box t
def roE (D:List Nat) (env:Nat→Option AV) (d:Nat):Option AV:=if D.contains d=true then none else env d
def VJ (ops:Array Oper) (i:Nat) (p:Oper→Bool):Bool:=match ops[i]? with
 | some o=>p o
 | none=>false
def fv (ops:Array Oper) (i:Nat):List Nat:=match ops[i]? with
 | some o=>o.dst.toList
 | none=>[]
def dstsOf (ops:Array Oper):List Nat→List Nat
 | []=>[]
 | i::r=>fv ops i++dstsOf ops r
def Uh (ops:Array Oper) (i:Nat):List Nat:=match ops[i]? with
 | some o=>o.looksAt ops
 | none=>[]
def gY (l m:List Nat):Bool:=l.all fun x=> !m.contains x
def jK (ops:Array Oper):List Nat→Bool
 | []=>true
 | i::r=>r.all (fun j=>waits ops ops.size j i)&&jK ops r
def ZH (ops:Array Oper):List Nat→Bool
 | []=>true
 | i::r=>gY (Uh ops i) (dstsOf ops (i::r))&&gY (fv ops i) (dstsOf ops r)&&ZH ops r
def qV (ops:Array Oper) (A R Z F:List Nat):Bool:=
 (List.range ops.size).all (fun i=>A.contains i||R.contains i||Z.contains i||F.contains i)&&
 (List.range ops.size).all (fun i=>VJ ops i fun o=>o.guard.isNone&&o.after.toList.all fun e=> !Region.binds .any e||decide (e.on < i))&&
 A.all (fun i=>VJ ops i fun o=>isPure o.op&&o.dst.isSome&&o.after.toList.all (fun e=> !Region.binds .any e||A.contains e.on)&&gY (o.looksAt ops) (dstsOf ops (R++Z++F))&&A.all fun j=>gY (fv ops j) (o.looksAt ops)||waits ops ops.size i j)&&
 ZH ops A&&gY (dstsOf ops A) (dstsOf ops (R++Z++F))&&gY A (R++Z++F)&&gY R (Z++F)&&gY Z F&&
 R.all (fun i=>VJ ops i fun o=>LV o.op&&gY (o.looksAt ops) (dstsOf ops Z)&&A.all fun j=>gY (fv ops j) (o.looksAt ops)||waits ops ops.size i j)&&
 jK ops R&&gY (dstsOf ops R) (dstsOf ops Z)&&abJ ops Z&&
 Z.all (fun i=>VJ ops i fun o=>Fw o.op&&o.dst.isSome)&&
 F.all (fun i=>(A++R++Z).all fun j=>waits ops ops.size i j)&&jK ops F&&F.all (fun i=>decide (i < ops.size))
where
 abJ (ops:Array Oper):List Nat→Bool
  | []=>true
  | i::r=>gY (fv ops i) (dstsOf ops r)&& !r.contains i&&abJ ops r
def ZI (P:Program) [Tables P] (ops:Array Oper) (A R Z F dm:List Nat) (K:AS→Prop) (s:AS):Prop:=
 mv P ops s.next (fun sr=>fL P ops s.next K (R++Z++F) 0 ⟨sr.env,WA dm s.box,s.next⟩) A ⟨roE (dstsOf ops (A++R++Z++F)) s.env,fun t=>ZG (WA dm s.box t),s.next⟩
section
variable {P:Program} [Tables P] {W:Nat→Prop} {N:Nat} {w0:gF P} {M:Nat→Prop} {g:bG} {s:AS} {a:Act} {w:World} {ops:Array Oper} {nm:Nat} {o:Oper}
def Fy (g:bG) (s:AS) (b:Nat):Prop:= ∃ t bx,s.box t=some bx∧bx.rw=true∧(g t).1=b
theorem cE.ZJ (h:cE W N w0 M g s a w) {pn:Nat} (WU: ∀ n,n < pn→M n):cE (Fy g s) N ⟨w,pn,g,h.laid⟩ M g s a w:=
 ⟨h.size,h.defers,h.env,h.names,h.mem,fun t b hb hrw=>Or.inr ⟨t,b,hb,hrw,rfl⟩,Frame.refl _ _,fun n hn=>⟨WU n hn,rfl⟩,fun b bx hb=>by
  rintro ⟨t,c,hc,hrw,rfl⟩
  rcases h.own t c hc hrw with h3 | h3
  ·have:=(w0.laid.rows _ bx hb).1;omega
  ·exact h.tabs _ bx hb h3⟩
theorem cE.ZK (h:cE W N w0 M g s a w) {pn:Nat} {hl:Laid P w} {M':Nat→Prop} {g':bG} {s':AS} {a':Act} {w':World} (hM: ∀ n,M n→n < pn)
  (h':cE (Fy g s) N ⟨w,pn,g,hl⟩ M' g' s' a' w'):cE W N w0 M' g' s' a' w':=by
 have ho: ∀ b,Fy g s b→w0.heap.size≤b∨W b:=fun b hb=>by
  obtain ⟨t,c,hc,hrw,rfl⟩:=hb
  exact h.own t c hc hrw
 have hf:=h'.frame
 refine ⟨h'.size,h'.defers,h'.env,h'.names,h'.mem,fun t b hb hrw=> ?_, ?_,fun n hn=> ?_,h.tabs⟩
 ·rcases h'.own t b hb hrw with h1 | h1
  ·exact .inl (Nat.le_trans h.frame.size h1)
  ·exact ho _ h1
 ·refine ⟨hf.os.trans h.frame.os,hf.tape.trans h.frame.tape,hf.output.trans h.frame.output,Nat.le_trans h.frame.size hf.size,fun k hk hW=> ?_⟩
  have:=hf.block k (Nat.lt_of_lt_of_le hk h.frame.size) fun hO=>(ho k hO).elim (fun h1=>by omega) hW
  exact this.trans (h.frame.block k hk hW)
 ·obtain ⟨h1,h2⟩:=h.kJ n hn
  obtain ⟨h3,h4⟩:=h'.kJ n (hM n h1)
  exact ⟨h3,h4.trans h2⟩
theorem VK {f:Nat} {l:List AV} {dst:Option Nat} {K:AS→Prop} (hv:bZ P nm f (some l) dst K s) (h:cE W N w0 (fun n=>n < nm) g s a w):
  Calls P f (l.map (AV.av g)).toArray w fun e w'=> ∃ v g' bx,e= .returned (AV.av g' v)∧AV.ok (fun n=>n < nm+4) v∧cE W N w0 (fun n=>n < nm+4) g' { s with box:=bx } a w'∧
   (∀ β,β < w.heap.size→(∀ t b,s.box t=some b→(g t).1≠β)→w'.heap[β]? =w.heap[β]? ∧ ∀ t b,bx t=some b→(g' t).1≠β)∧K (({ s with box:=bx }:AS).put dst (some v)):=by
 refine (hv _ N _ g a w (h.ZJ (pn:=nm) fun n hn=>hn)).mono ?_
 rintro e w' ⟨v,g',bx,rfl,hok,dr,hnew,hk⟩
 refine ⟨v,g',bx,rfl,hok,h.ZK (fun n hn=>hn) dr,fun β hβ hno=>⟨?_,fun t b hb=> ?_⟩,hk⟩
 ·exact dr.frame.block β hβ fun ⟨t,c,hc,_,e⟩=>hno t c hc e
 ·rcases hnew t b hb with hrw | ⟨b0,hb0,e⟩
  ·rcases dr.own t b hb hrw with h1 | ⟨t',c,hc,_,e⟩
   ·have h1':w.heap.size≤(g' t).1:=h1
    omega
   ·rw[← e];exact hno t' c hc
  ·rw[e];exact hno t b0 hb0
theorem Bj {K:AS→Prop} (h:cE W N w0 (fun n=>n < nm) g s a w) (hd: ∀ d,o.dst=some d→d < N) (hv:Bi P nm o K s)
  {next:Act→World→Prop} {Q:Exit→Act→World→Prop} (hK: ∀ g' s' a' w',cE W N w0 (fun n=>n < nm+4) g' s' a' w'→K s'→next a' w'):o.wp P a w next Q:=by
 unfold Bi at hv
 obtain ⟨dst,op,type,pos,after,guard⟩:=o
 simp only at hv hd
 split at hv
 ·rename_i f xs tys
  have hargs: ∀ l,bN s xs.toList=some l→xs.map a.eval=(l.map (AV.av g)).toArray:=fun l hl=>by
   apply Array.ext'
   rw[Array.toList_map,(eN h _ _ hl).1]
  split at hv
  ·rename_i hc
   unfold bZ at hv
   split at hv
   ·exact hv.elim
   ·rename_i l hl
    unfold Oper.wp
    rw[jx f xs tys dst type pos after guard a.eval rfl w,fD hc,hargs l hl]
    simp only[Oper.upon]
    refine (hv W N w0 g a w h).mono ?_
    rintro e w' ⟨v,g',bx,rfl,hok,dr,_,hk⟩
    exact hK g' _ _ _ (dr.put hd hok) hk
  ·exact lu (o:=⟨dst, .call ⟨.value (.func f),xs,tys⟩,type,pos,after,guard⟩) h hd (by unfold cv;simp only;rw[if_neg (by assumption)];exact hv) fun g' s' a' w' hr hk=>hK g' s' a' w' (hr.mono fun n hn=>by omega) hk
 ·exact lu h hd hv fun g' s' a' w' hr hk=>hK g' s' a' w' (hr.mono fun n hn=>by omega) hk
end
end Go.cA
namespace Go.cA
set_option linter.unusedSectionVars false
section
variable {P:Program} [Tables P] {W:Nat→Prop} {N:Nat} {w0:gF P} {M:Nat→Prop} {g:bG} {s:AS} {a:Act} {w:World} {ops:Array Oper} {nm:Nat} {o:Oper}
theorem pure_run {K:AS→Prop} (h:isPure o.op=true):cv P nm o K s=bQ (fa P nm s o.op) nm o.dst K s:=by
 obtain ⟨dst,op,type,pos,after,guard⟩:=o
 cases op<;>first | rfl | (simp[isPure]at h)
theorem abK {nm':Nat} (h:isPure o.op=true):fa P nm s o.op=fa P nm' s o.op:=by
 obtain ⟨dst,op,type,pos,after,guard⟩:=o
 cases op<;>first | rfl | (simp[isPure]at h)
theorem LW {op:BinOp} {x y:Option AV} {e:dE} (h:cx op x y=some e): ∃ v,e=(some v,none):=by
 unfold cx at h
 split at h
 ·split at h
  ·simp only[Option.some.injEq]at h;exact ⟨_,h.symm⟩
  ·cases h
 ·cases h
theorem VL {e:dE} (h:isPure o.op=true) (he:fa P nm s o.op=some e): ∃ v,e=(some v,none):=by
 obtain ⟨dst,op,type,pos,after,guard⟩:=o
 cases op<;>simp only[isPure,Bool.false_eq_true]at h<;>simp only[fa]at he
 case move x=>
  split at he
  ·simp only[Option.some.injEq]at he;exact ⟨_,he.symm⟩
  ·cases he
 case load t x=>
  unfold eg at he
  (repeat' split at he)<;>first | (simp only[Option.some.injEq]at he;exact ⟨_,he.symm⟩) | cases he
 case fieldAddr t x f=>
  unfold eh at he
  (repeat' split at he)<;>first | (simp only[Option.some.injEq]at he;exact ⟨_,he.symm⟩) | cases he
 case nilCheck x=>
  unfold pJ at he
  (repeat' split at he)<;>first | (simp only[Option.some.injEq]at he;exact ⟨_,he.symm⟩) | cases he
 case field t x f=>
  unfold fO at he
  (repeat' split at he)<;>first | (simp only[Option.some.injEq]at he;exact ⟨_,he.symm⟩) | cases he
 case index t x i=>
  unfold fX at he
  (repeat' split at he)<;>first | (simp only[Option.some.injEq]at he;exact ⟨_,he.symm⟩) | cases he
 case indexAddr t x i=>
  unfold cI at he
  (repeat' split at he)<;>first | (simp only[Option.some.injEq]at he;exact ⟨_,he.symm⟩) | cases he
 case build t parts=>
  unfold fY at he
  (repeat' split at he)<;>first | (simp only[Option.some.injEq]at he;exact ⟨_,he.symm⟩) | cases he
 case extract x i=>
  unfold fH at he
  (repeat' split at he)<;>first | (simp only[Option.some.injEq]at he;exact ⟨_,he.symm⟩) | cases he
 case binOp op t x y p=>
  unfold nc at he
  split at he
  ·unfold o6 at he
   (repeat' split at he)<;>first | (simp only[Option.some.injEq]at he;exact ⟨_,he.symm⟩) | cases he
  unfold kj at he
  split at he
  ·unfold eqA at he
   split at he
   ·unfold eqL at he
    (repeat' split at he)<;>first | (simp only[Option.some.injEq]at he;exact ⟨_,he.symm⟩) | cases he
   ·unfold eqF at he
    split at he
    ·unfold Vo at he
     (repeat' split at he)<;>first | (simp only[Option.some.injEq]at he;exact ⟨_,he.symm⟩) | cases he
    ·cases he
  ·unfold eqB at he
   (repeat' split at he)<;>first | (simp only[Option.some.injEq]at he;exact ⟨_,he.symm⟩) | cases he
  ·exact LW he
 case unOp op t x=>
  unfold mZ at he
  (repeat' split at he)<;>first | (simp only[Option.some.injEq]at he;exact ⟨_,he.symm⟩) | cases he
theorem SV.Fz {M1 M2:Nat→Prop} {x:SV} (h1:SV.names M1 x) (h2:SV.names M2 x):SV.names (fun n=>M1 n∧M2 n) x:=by
 rcases x with v | ⟨t,o⟩ | ⟨t,o,n,c⟩
 ·trivial
 ·exact ⟨h1,h2⟩
 ·exact ⟨h1,h2⟩
theorem AV.agf {M1 M2:Nat→Prop} {v:AV} (h1:AV.ok M1 v) (h2:AV.ok M2 v):AV.ok (fun n=>M1 n∧M2 n) v:=by
 have hc: ∀ c:CV,CV.ok M1 c→CV.ok M2 c→CV.ok (fun n=>M1 n∧M2 n) c:=fun c k1 k2=>by
  rcases c with x | l
  ·exact SV.Fz k1 k2
  ·exact fun y hy=>⟨SV.Fz (k1 y hy).1 (k2 y hy).1,(k1 y hy).2⟩
 rcases v with c | l
 ·exact hc c h1 h2
 ·exact fun y hy=>hc y (h1 y hy) (h2 y hy)
theorem abL {v:AV} (h:cE W N w0 M g s a w) (h1: ¬ M nm) (h2: ¬ M (nm+1)) (hp:isPure o.op=true) (he:fa P nm s o.op=some (some v,none)):AV.ok M v:=by
 obtain ⟨g1,w1,r1,k1⟩:=iX (o:=o) h h1 he
 obtain ⟨g2,w2,r2,k2⟩:=iX (o:=o) (nm:=nm+1) h h2 ((abK hp).symm.trans he)
 refine AV.bA (fun n hn=> ?_) (AV.agf k1.val.2 k2.val.2)
 rcases hn with ⟨h3 | h3,h4 | h4⟩
 ·exact h3
 ·exact h3
 ·exact h4
 ·omega
theorem OB {l m:List Nat} (h:gY l m=true) {x:Nat} (hx:x ∈ l):x ∉ m:=fun hm=>by
 have:=List.all_eq_true.1 h x hx
 simp only[Bool.not_eq_true',List.contains_eq_mem,decide_eq_false_iff_not]at this
 exact this hm
theorem kx {i:Nat} (ho:ops[i]? =some o):fv ops i=o.dst.toList:=by unfold fv;rw[ho]
theorem fw {i d:Nat} (ho:ops[i]? =some o) (hd:o.dst=some d): ∀ {l:List Nat},i ∈ l→d ∈ dstsOf ops l
 | j::r,h=>by
  unfold dstsOf
  rcases List.mem_cons.1 h with rfl | h
  ·exact List.mem_append_left _ (by rw[kx ho,hd];simp)
  ·exact List.mem_append_right _ (fw ho hd h)
theorem Bk {d:Nat}: ∀ {l:List Nat},d ∈ dstsOf ops l→ ∃ i ∈ l, ∃ o,ops[i]? =some o∧o.dst=some d
 | [],h=>by simp[dstsOf]at h
 | j::r,h=>by
  unfold dstsOf at h
  rcases List.mem_append.1 h with h | h
  ·unfold fv at h
   split at h
   ·rename_i o ho
    exact ⟨j,by simp,o,ho,by simpa using h⟩
   ·simp at h
  ·obtain ⟨i,hi,o,ho,hd⟩:=Bk h
   exact ⟨i,by simp[hi],o,ho,hd⟩
theorem fF {l m:List Nat}:dstsOf ops (l++m)=dstsOf ops l++dstsOf ops m:=by
 induction l with
 | nil=>rfl
 | cons i r ih=>simp only[List.cons_append,dstsOf,ih,List.append_assoc]
theorem ZL {s s':AS} (h: ∀ d ∈ o.looksAt ops,s.env d=s'.env d): ∀ x ∈ o.op.operands,s.aQ x=s'.aQ x:=fun x hx=>
 lW fun t ht=>h t (jy hx ht)
theorem Ui {s s':AS} (hn:Names M s) (h: ∀ d ∈ o.looksAt ops,s.env d=s'.env d) (hb:s.box=s'.box):fa P nm s o.op=fa P nm s' o.op:=
 tU (M:=M) (ZL h) (fun x _ v hv=>hn.aQ hv) (fun _ t _=>by rw[hb])
theorem FA {K:AS→Prop} (h1: ¬ M nm) (h2: ¬ M (nm+1)) (hok:ops.toList.all (nj N)=true): ∀ {A:List Nat} {s:AS} {a:Act},(∀ i ∈ A, ∃ o,ops[i]? =some o∧isPure o.op=true∧ ∃ d,o.dst=some d)→ZH ops A=true→
  cE W N w0 M g s a w→mv P ops nm K A s→ ∃ sr ar,K sr∧sr.box=s.box∧sr.next=s.next∧cE W N w0 M g sr ar w∧(∀ d,d ∉ dstsOf ops A→sr.env d=s.env d∧ar.tmps[d]? =a.tmps[d]?)∧
   ∀ i ∈ A, ∃ o d v,ops[i]? =some o∧o.dst=some d∧sr.env d=some v∧fa P nm sr o.op=some (some v,none)∧AV.ok M v
 | [],s,a,_,_,h,hv=>⟨s,a,hv,rfl,rfl,h,fun _ _=>⟨rfl,rfl⟩,fun i hi=>nomatch hi⟩
 | i::r,s,a,hA,hrow,h,hv=>by
  obtain ⟨o,ho,hp,d,hd⟩:=hA i (by simp)
  simp only[ZH,Bool.and_eq_true]at hrow
  obtain ⟨⟨hr1,hr2⟩,hr3⟩:=hrow
  unfold mv at hv
  rw[ho]at hv
  simp only at hv
  rw[pure_run hp]at hv
  unfold bQ at hv
  split at hv
  ·rename_i e he
   obtain ⟨v,rfl⟩:=VL hp he
   have ZM:=abL h h1 h2 hp he
   rw[hd]at hv
   have hdN:d < N:=by
    have:=List.all_eq_true.1 hok o (by simpa using Array.mem_of_getElem? ho)
    unfold nj at this;rw[hd]at this;simpa using this
   obtain ⟨sr,ar,k1,k2,k3,k4,k5,k6⟩:=FA h1 h2 hok (fun j hj=>hA j (by simp[hj])) hr3 (h.put (d:=some d) (fun x hx=>by cases hx;exact hdN) ZM) hv
   have hdr:d ∉ dstsOf ops r:=OB hr2 (by rw[kx ho,hd];simp)
   have aeM: ∀ x ∈ o.looksAt ops,s.env x=sr.env x:=fun x hx=>by
    have hx1:x ∉ dstsOf ops (i::r):=OB hr1 (by unfold Uh;rw[ho];exact hx)
    have hxd:x≠d:=fun e=>hx1 (e▸fw ho hd (by simp))
    have hxr:x ∉ dstsOf ops r:=fun hm=>hx1 (by unfold dstsOf;exact List.mem_append_right _ hm)
    rw[(k5 x hxr).1]
    exact (bg _ _ _ _ hxd).symm
   refine ⟨sr,ar,k1,k2,k3,k4,fun x hx=> ?_,fun j hj=> ?_⟩
   ·have hxd:x≠d:=fun e=>hx (e▸fw ho hd (by simp))
    have hxr:x ∉ dstsOf ops r:=fun hm=>hx (by unfold dstsOf;exact List.mem_append_right _ hm)
    rw[(k5 x hxr).1,(k5 x hxr).2]
    exact ⟨bg _ _ _ _ hxd,by simp only[Act.put];rw[Array.getElem?_setIfInBounds_ne (fun e=>hxd e.symm)]⟩
   ·rcases List.mem_cons.1 hj with rfl | hj
    ·refine ⟨o,d,v,ho,hd, ?_, ?_,ZM⟩
     ·rw[(k5 d hdr).1];exact ax _ _ _
     ·rw[← he]
      exact (Ui h.names aeM k2.symm).symm
    ·exact k6 j hj
  ·exact hv.elim
theorem Bl {dm:List Nat} {box:Nat→Option aW} {t:Nat} {b:aW} (h:WA dm box t=some b): ∃ b0,box t=some b0∧b.cells=b0.cells∧(b.rw=true→b0.rw=true):=by
 unfold WA at h
 split at h
 ·split at h
  ·rename_i b0 hb
   simp only[Option.some.injEq]at h;subst h
   exact ⟨b0,hb,rfl,fun h=>by cases h⟩
  ·cases h
 ·exact ⟨b,h,rfl,id⟩
theorem cE.agh (h:cE W N w0 M g s a w) (dm:List Nat):cE W N w0 M g { s with box:=WA dm s.box } a w:=by
 refine ⟨h.size,h.defers,h.env,⟨h.names.env,fun t b hb=> ?_⟩,⟨fun t b hb=> ?_,fun t b hb i v hv=> ?_,fun t b hb hrw i hi=> ?_,fun t t' b b' hb hrw hb' hne=> ?_⟩,fun t b hb hrw=> ?_,h.frame,h.kJ,h.tabs⟩
 ·obtain ⟨b0,h1,h2,_⟩:=Bl hb
  rw[h2];exact h.names.box t b0 h1
 ·obtain ⟨b0,h1,_,_⟩:=Bl hb
  exact h.mem.lt t b0 h1
 ·obtain ⟨b0,h1,h2,_⟩:=Bl hb
  rw[h2]at hv;exact h.mem.cell t b0 h1 i v hv
 ·obtain ⟨b0,h1,h2,h3⟩:=Bl hb
  rw[h2]at hi;exact h.mem.free t b0 h1 (h3 hrw) i hi
 ·obtain ⟨b0,h1,_,h3⟩:=Bl hb
  obtain ⟨b1,k1,_,_⟩:=Bl hb'
  exact h.mem.sep t t' b0 b1 h1 (h3 hrw) k1 hne
 ·obtain ⟨b0,h1,_,h3⟩:=Bl hb
  exact h.own t b0 h1 (h3 hrw)
theorem oF {b:Option aW} {c:aW} (h:ZG b=some c):b=some c∧c.rw=false:=by
 unfold ZG at h
 split at h
 ·simp only[Option.some.injEq]at h;subst h;exact ⟨rfl,rfl⟩
 ·cases h
theorem ZN {pn:Nat} {hl:Laid P w} {N':Nat} {M':Nat→Prop} {g':bG} {s':AS} {a' a1:Act} {w':World} (h:cE W N w0 M g s a w) (hM:cE (Fy g s) N' ⟨w,pn,g,hl⟩ M' g' s' a1 w') {env:Nat→Option AV}
  (hsz:a'.tmps.size=N) (hdf:a'.defers=[]) (gH: ∀ d v,env d=some v→a'.tmps[d]? =some (AV.av g v)) (hn: ∀ d v,env d=some v→AV.ok M v) (nx:Nat):
  cE (fun _=>False) N ⟨w',0,g,hM.laid⟩ M g ⟨env,fun t=>ZG (s.box t),nx⟩ a' w':=by
 have Vn: ∀ t c,s.box t=some c→c.rw=false→w'.heap[(g t).1]? =w.heap[(g t).1]? :=fun t c hc hrw=>by
  refine hM.frame.block _ (h.mem.lt t c hc) fun ⟨u,d,hd,Cq,e⟩=> ?_
  by_cases e2:u=t
  ·subst e2;rw[hc]at hd;cases hd;rw[hrw]at Cq;cases Cq
  ·exact h.mem.sep u t d c hd Cq hc e2 e
 refine ⟨hsz,hdf,gH,⟨hn,fun t b hb=> ?_⟩,⟨fun t b hb=> ?_,fun t b hb i v hv=> ?_,fun t b hb hrw i hi=> ?_,fun t t' b b' hb hrw hb' hne=> ?_⟩,fun t b hb hrw=> ?_,Frame.refl _ _,fun n hn=>absurd hn (Nat.not_lt_zero n),fun _ _ _=>id⟩
 ·exact h.names.box t b (oF hb).1
 ·exact Nat.lt_of_lt_of_le (h.mem.lt t b (oF hb).1) hM.frame.size
 ·obtain ⟨h1,h2⟩:=oF hb
  have:=h.mem.cell t b h1 i v hv
  unfold World.cell? at this ⊢
  simp only[Vn t b h1 h2]
  exact this
 ·rw[(oF hb).2]at hrw;cases hrw
 ·rw[(oF hb).2]at hrw;cases hrw
 ·rw[(oF hb).2]at hrw;cases hrw
theorem cE.ajm (h:cE W N w0 M g s a w) (hnm: ¬ M nm) {β d:Nat} {e:TypeId} {zs:List Value} (hz:zs.all Value.oneCell'=true) (hβ:w0.heap.size≤β) (hlt:β < w.heap.size) (sL:w.heap[β]? =some (.cells zs.toArray e (0,0)))
  (hno: ∀ t b,s.box t=some b→(g t).1≠β) (hd:a.tmps[d]? =some (.pointer (some ⟨β,0,none⟩))):
  cE W N w0 (fun n=>M n∨n=nm) (upd g nm (β,0)) ((s.mem nm (some (.inl (zs.map .inl)))).put (some d) (some (Ptr nm 0))) a w:=by
 have hg: ∀ n,M n→g n=upd g nm (β,0) n:=fun n hn=>(bg _ _ _ _ (fun e=>hnm (by rw[← e];exact hn))).symm
 have hM: ∀ n,M n→M n∨n=nm:=fun n hn=>Or.inl hn
 have jX: ∀ t b,s.box t=some b→t≠nm:=fun t b hb e=>by have:=(h.names.box t b hb).1;rw[e]at this;exact hnm this
 have hold: ∀ t b,s.box t=some b→upd g nm (β,0) t=g t:=fun t b hb=>bg _ _ _ _ (jX t b hb)
 have lT: ∀ t b,upd s.box nm (some (⟨true,zs.map Sum.inl⟩:aW)) t=some b→(t=nm∧b=⟨true,zs.map .inl⟩)∨(t≠nm∧s.box t=some b):=fun t b hb=>by
  by_cases e:t=nm
  ·subst e;rw[ax]at hb;simp only[Option.some.injEq]at hb;exact .inl ⟨rfl,hb.symm⟩
  ·rw[bg _ _ _ _ e]at hb;exact .inr ⟨e,hb⟩
 refine ⟨h.size,h.defers,fun x v hv=> ?_,⟨fun x v hv=> ?_,fun t b hb=> ?_⟩,⟨fun t b hb=> ?_,fun t b hb i v hv=> ?_,fun t b hb hrw i hi=> ?_,fun t t' b b' hb hrw hb' hne=> ?_⟩,fun t b hb hrw=> ?_,h.frame,fun n hn=>⟨Or.inl (h.kJ n hn).1,(hg n (h.kJ n hn).1).symm.trans (h.kJ n hn).2⟩,h.tabs⟩
 ·by_cases ex:x=d
  ·subst ex
   have:some (Ptr nm 0)=some v:=by rw[← hv];exact (ax _ _ _).symm
   cases this
   rw[hd];simp[AV.av,CV.av,SV.av,ax]
  ·have hv':s.env x=some v:=by rw[← hv];exact (bg _ _ _ _ ex).symm
   rw[h.env x v hv',AV.bX (AV.bA hg (h.names.env x v hv'))]
 ·by_cases ex:x=d
  ·subst ex
   have:some (Ptr nm 0)=some v:=by rw[← hv];exact (ax _ _ _).symm
   cases this
   exact Or.inr rfl
  ·have hv':s.env x=some v:=by rw[← hv];exact (bg _ _ _ _ ex).symm
   exact AV.bA hM (h.names.env x v hv')
 ·rcases lT t b hb with ⟨rfl,rfl⟩ | ⟨_,hb'⟩
  ·refine ⟨Or.inr rfl,fun x hx=> ?_⟩
   simp only[List.mem_map]at hx
   obtain ⟨u,hu,rfl⟩:=hx
   exact ⟨trivial,List.all_eq_true.1 hz u hu⟩
  ·exact ⟨Or.inl (h.names.box t b hb').1,fun x hx=>SV.bA hM ((h.names.box t b hb').2 x hx)⟩
 ·rcases lT t b hb with ⟨rfl,rfl⟩ | ⟨e,hb'⟩
  ·rw[ax];exact hlt
  ·rw[bg _ _ _ _ e];exact h.mem.lt t b hb'
 ·rcases lT t b hb with ⟨rfl,rfl⟩ | ⟨e,hb'⟩
  ·rw[ax]
   simp only[List.getElem?_map]at hv
   cases hi:zs[i]? with
   | none=>rw[hi]at hv;cases hv
   | some u=>
    rw[hi]at hv
    simp only[Option.map_some,Option.some.injEq]at hv;subst hv
    unfold World.cell?
    simp only[sL,Nat.zero_add,List.getElem?_toArray,hi,SV.av];rfl
  ·rw[bg _ _ _ _ e,h.mem.cell t b hb' i v hv,SV.bX (SV.eY hg ((h.names.box t b hb').2 v (List.mem_of_getElem? hv)).1)]
 ·rcases lT t b hb with ⟨rfl,rfl⟩ | ⟨e,hb'⟩
  ·rw[ax]
   unfold dq
   simp only[sL]
   rfl
  ·rw[bg _ _ _ _ e];exact h.mem.free t b hb' hrw i hi
 ·rcases lT t b hb with ⟨rfl,rfl⟩ | ⟨e,h1⟩<;>rcases lT t' b' hb' with ⟨rfl,rfl⟩ | ⟨e',h2⟩
  ·exact absurd rfl hne
  ·rw[ax,bg _ _ _ _ e'];exact fun e3=>hno t' b' h2 e3.symm
  ·rw[ax,bg _ _ _ _ e];exact hno t b h1
  ·rw[bg _ _ _ _ e,bg _ _ _ _ e'];exact h.mem.sep t t' b b' h1 hrw h2 hne
 ·rcases lT t b hb with ⟨rfl,rfl⟩ | ⟨e,hb'⟩
  ·rw[ax];exact Or.inl hβ
  ·rw[bg _ _ _ _ e];exact h.own t b hb' hrw
theorem VM {t:TypeId} {zs:List Value} (h:zeroOf P t=some zs) (hp:o.op= .alloc t) (r:Operand→Value) (w:World):
  (execOp r o).run P w= .ok (.value (.pointer (some ⟨w.heap.size,0,none⟩))) (w.alloc (.cells zs.toArray t)):=by
 obtain ⟨dst,op,type,pos,after,guard⟩:=o
 simp only at hp
 subst hp
 unfold zeroOf at h
 split at h
 ·rename_i i hi
  split at h
  ·rename_i v hv
   simp only[Option.some.injEq]at h;subst h
   simp[execOp,Instr.alloc,zeroValue,typeInfo,hi,hv,newVar,newRow]
  ·cases h
 ·cases h
theorem OC (w:World) (x:Obj):Kept w (w.alloc x):=⟨rfl,rfl,rfl,by simp,fun k hk _=>by
 show (w.heap.push x)[k]? =_
 rw[Array.getElem?_push,if_neg (by omega)]⟩
end
end Go.cA
namespace Go.cA
set_option linter.unusedSectionVars false
section
variable {P:Program} [Tables P] {W:Nat→Prop} {N:Nat} {w0:gF P} {M:Nat→Prop} {g:bG} {s:AS} {a:Act} {w:World} {ops:Array Oper} {nm:Nat} {o:Oper}
theorem rZ (hlt: ∀ (i:Nat) o,ops[i]? =some o→ ∀ e ∈ o.after,Region.binds .any e=true→e.on < i): ∀ (fuel i j:Nat),waits ops fuel i j=true→j < i
 | 0,_,_,h=>by simp[waits]at h
 | fuel+1,i,j,h=>by
  unfold waits at h
  split at h
  ·rename_i o ho
   obtain ⟨e,he,h2⟩:=List.any_eq_true.1 h
   simp only[Bool.and_eq_true,Bool.or_eq_true,beq_iff_eq]at h2
   have h3:=hlt i o ho e (by simpa using he) h2.1
   rcases h2.2 with h4 | h4
   ·omega
   ·have:=rZ hlt fuel e.on j h4;omega
  ·cases h
theorem ZO {L:Array Bool} {i:Nat} (hi:i < L.size) (j:Nat):(L.setIfInBounds i true).getD j false=true↔j=i∨L.getD j false=true:=by
 by_cases e:i=j
 ·subst e
  simp[Array.getD_eq_getD_getElem?,Array.getElem?_setIfInBounds_self_of_lt hi]
 ·simp only[Array.getD_eq_getD_getElem?,Array.getElem?_setIfInBounds_ne e]
  constructor
  ·exact Or.inr
  ·rintro (h | h)
   ·exact absurd h.symm e
   ·exact h
theorem lun {L:Array Bool} {j:Nat} (h1:L.getD j true=false) (h2:L.getD j false=true):False:=by
 by_cases hlt:j < L.size
 ·simp only[Array.getD_eq_getD_getElem?,Array.getElem?_eq_getElem hlt,Option.getD_some]at h1 h2
  rw[h2]at h1;cases h1
 ·simp only[Array.getD_eq_getD_getElem?,Array.getElem?_eq_none (Nat.le_of_not_lt hlt),Option.getD_none]at h1
  cases h1
theorem ajo {L:Array Bool} {j:Nat} (hj:j < L.size) (h: ¬ L.getD j false=true):L.getD j true=false:=by
 simp only[Array.getD_eq_getD_getElem?,Array.getElem?_eq_getElem hj,Option.getD_some]at h ⊢
 simpa using h
theorem abN {L:Array Bool} (h: ∀ i,i < ops.size→L.getD i false=true):eP L ops.toList 0=[]:=by
 cases hr:eP L ops.toList 0 with
 | nil=>rfl
 | cons p r=>
  obtain ⟨i,o⟩:=p
  obtain ⟨_,h2,h3⟩:=iA ops.toList 0 (i,o) (by rw[hr];simp)
  have ho:ops[i]? =some o:=by simpa using h3
  exact (lun h2 (h i (Array.getElem?_eq_some_iff.1 ho).1)).elim
theorem Bm {L:Array Bool} {i:Nat} (hi:L.getD i true=false) (ho:ops[i]? =some o):(eP L ops.toList 0).length=(eP (L.setIfInBounds i true) ops.toList 0).length+1:=by
 obtain ⟨pre,post,h1,h2,_⟩:=lX hi ops.toList 0 (Nat.zero_le _) (o:=o) (by simpa using ho)
 rw[h1,h2];simp;omega
structure Static (ops:Array Oper) (N:Nat):Prop where
 lt: ∀ (i:Nat) o,ops[i]? =some o→ ∀ e ∈ o.after,Region.binds .any e=true→e.on < i
 gd: ∀ (i:Nat) o,ops[i]? =some o→o.guard=none
 dN: ∀ (i:Nat) o,ops[i]? =some o→ ∀ d,o.dst=some d→d < N
def Down (ops:Array Oper) (L:Array Bool):Prop:= ∀ (i:Nat) o,ops[i]? =some o→L.getD i false=true→ ∀ e ∈ o.after,Region.binds .any e=true→L.getD e.on false=true
theorem Down.set {L:Array Bool} (h:Down ops L) {i:Nat} (hi:i < L.size) (ho:ops[i]? =some o) (he: ∀ e ∈ o.after,Region.binds .any e=true→L.getD e.on false=true):Down ops (L.setIfInBounds i true):=fun j p hp hj e WG hb=>by
 rw[ZO hi]at hj ⊢
 rcases hj with rfl | hj
 ·rw[ho]at hp;cases hp;exact .inr (he e WG hb)
 ·exact .inr (h j p hp hj e WG hb)
theorem wN {Q:Exit→Act→World→Prop} {i:Nat} (ho:ops[i]? =some o) (hg:o.guard=none) {next:Act→World→Prop} (h:o.wp P a w next Q):wpOp P ops Q i next a w:=by
 unfold wpOp
 simp only[ho]
 rw[if_pos (by simp[Region.wanted,hg])]
 exact .inl h
theorem ZP {base:Nat} {K:AS→Prop} {Q:Exit→Act→World→Prop} (hs:Static ops N) (hK: ∀ g' s' a' w',cE W N w0 (fun n=>n < s'.next) g' s' a' w'→K s'→Q .normal a' w'):
  ∀ (F:List Nat) (k fuel:Nat) (L:Array Bool) (g:bG) (s:AS) (a:Act) (w:World),jK ops F=true→L.size=ops.size→(eP L ops.toList 0).length=fuel→(∀ i,i < ops.size→(L.getD i false=true↔i ∉ F))→(∀ i ∈ F,i < ops.size)→Down ops L→
   cE W N w0 (fun n=>n < base+4*(k+1)) g s a w→fL P ops base K F k s→wpAny P .any ops Q fuel L a w
 | [],k,fuel,L,g,s,a,w,_,hsz,hf,hl,_,_,h,hv=>by
  rw[abN fun i hi=>(hl i hi).2 (by simp)]at hf
  subst hf
  have hr:Region.ready .any ops L=[]:=by
   cases hr:Region.ready .any ops L with
   | nil=>rfl
   | cons i r=>
    exfalso
    obtain ⟨h1,o,ho,_⟩:=mem_ready.1 (show i ∈ Region.ready .any ops L by rw[hr];simp)
    exact lun h1 ((hl i (Array.getElem?_eq_some_iff.1 ho).1).2 (by simp))
  exact ⟨hr,hK _ _ _ _ (h.next _) hv⟩
 | i::r,k,fuel,L,g,s,a,w,hc,hsz,hf,hl,hF,g8,h,hv=>by
  simp only[jK,Bool.and_eq_true]at hc
  have hir: ∀ j ∈ r,waits ops ops.size j i=true:=List.all_eq_true.1 hc.1
  have hin:i ∉ r:=fun hm=>by have:=rZ hs.lt _ _ _ (hir i hm);omega
  have agi:=hF i (by simp)
  have hiu:L.getD i true=false:=ajo (by omega) fun hx=>(hl i agi).1 hx (by simp)
  cases hoi:ops[i]? with
  | none=>rw[Array.getElem?_eq_none_iff]at hoi;omega
  | some o=>
   have LX: ∀ e ∈ o.after,Region.binds .any e=true→L.getD e.on false=true:=fun e he hb=>by
    have hlt:=hs.lt i o hoi e he hb
    refine (hl e.on (by omega)).2 fun hm=> ?_
    rcases List.mem_cons.1 hm with h1 | h1
    ·omega
    ·have:=rZ hs.lt _ _ _ (hir e.on h1);omega
   rw[Bm hiu hoi]at hf
   subst hf
   refine ⟨fun hr=> ?_,fun j hj=> ?_⟩
   ·have:i ∈ Region.ready .any ops L:=mem_ready.2 ⟨hiu,o,hoi,LX⟩
    rw[hr]at this;cases this
   ·obtain ⟨h1,oj,hoj,hej⟩:=mem_ready.1 hj
    have hjF:j ∈ i::r:=Classical.byContradiction fun hx=>lun h1 ((hl j (Array.getElem?_eq_some_iff.1 hoj).1).2 hx)
    have hji:j=i:=by
     rcases List.mem_cons.1 hjF with h2 | h2
     ·exact h2
     ·exact absurd (gp g8 ops.size j i oj hoj hej (hir j h2)) fun hx=>lun hiu hx
    subst hji
    rw[hoi]at hoj;cases hoj
    unfold fL at hv
    rw[hoi]at hv
    simp only at hv
    refine wN hoi (hs.gd j o hoi) (Bj h (hs.dN j o hoi) hv fun g' s' a' w' dr hk=> ?_)
    refine ZP hs hK r (k+1) _ _ g' s' a' w' hc.2 (by simpa using hsz) rfl (fun x hx=> ?_) (fun x hx=>hF x (by simp[hx])) (g8.set (by omega) hoi LX) (dr.mono fun n hn=>by omega) hk
    rw[ZO (by omega),hl x hx]
    constructor
    ·rintro (rfl | h2)
     ·exact hin
     ·exact fun h3=>h2 (by simp[h3])
    ·intro h2
     by_cases e:x=j
     ·exact .inl e
     ·exact .inr fun h3=>(List.mem_cons.1 h3).elim e h2
structure aeN (P:Program) [Tables P] (ops:Array Oper) (lo:Nat) (g:bG) (s:AS) (a:Act) (w:World) (i β:Nat):Prop where
 ex: ∃ o t d zl,ops[i]? =some o∧o.op= .alloc t∧o.dst=some d∧zeroOf P t=some zl∧a.tmps[d]? =some (.pointer (some ⟨β,0,none⟩))∧w.heap[β]? =some (.cells zl.toArray t (0,0))
 lo:lo≤β
 hi:β < w.heap.size
 no: ∀ t b,s.box t=some b→(g t).1≠β
theorem aeO {base:Nat} {K:AS→Prop} {F:List Nat} {βf:Nat→Nat}: ∀ (Z:List Nat) (k:Nat) (g:bG) (s:AS),Z.Nodup→(∀ i ∈ Z,aeN P ops w0.heap.size g s a w i (βf i))→(∀ i ∈ Z, ∀ j ∈ Z,i≠j→βf i≠βf j)→
   cE W N w0 (fun n=>n < base+4*(k+1)) g s a w→fL P ops base K (Z++F) k s→ ∃ g' s',cE W N w0 (fun n=>n < base+4*(k+Z.length+1)) g' s' a w∧fL P ops base K F (k+Z.length) s'
 | [],k,g,s,_,_,_,h,hv=>⟨g,s,h,hv⟩
 | i::r,k,g,s,hnd,hm,hi,h,hv=>by
  obtain ⟨⟨o,t,d,zl,ho,hop,hd,hz,ajp,hcell⟩,hlo,hhi,hno⟩:=hm i (by simp)
  rw[List.nodup_cons]at hnd
  simp only[List.cons_append,fL,ho]at hv
  have hv2:bQ (iu P (base+4*(k+1)) t) (base+4*(k+1)) o.dst (fL P ops base K (r++F) (k+1)) s:=by
   obtain ⟨dst,op,type,pos,after,guard⟩:=o
   simp only at hop;subst hop
   exact hv
  unfold iu at hv2
  rw[hz]at hv2
  simp only at hv2
  split at hv2
  ·rename_i hall
   rw[hd]at hv2
   have dr:=h.ajm (nm:=base+4*(k+1)) (Nat.lt_irrefl _) hall hlo hhi hcell hno ajp
   obtain ⟨g',s',h1,h2⟩:=aeO r (k+1) _ _ hnd.2 (fun j hj=>by
     obtain ⟨e1,e2,e3,e4⟩:=hm j (by simp[hj])
     refine ⟨e1,e2,e3,fun t' b hb=> ?_⟩
     have hne:=hi i (by simp) j (by simp[hj]) (fun e=>hnd.1 (e▸hj))
     have hb':upd s.box (base+4*(k+1)) (some (⟨true,zl.map Sum.inl⟩:aW)) t'=some b:=hb
     by_cases et:t'=base+4*(k+1)
     ·subst et;rw[ax];exact hne
     ·rw[bg _ _ _ _ et]at hb' ⊢;exact e4 t' b hb') (fun x hx y hy=>hi x (by simp[hx]) y (by simp[hy])) (dr.mono fun n hn=>by omega) hv2
   exact ⟨g',s',by rw[show k+(i::r).length=k+1+r.length by simp;omega];exact h1,by rw[show k+(i::r).length=k+1+r.length by simp;omega];exact h2⟩
  ·exact hv2.elim
theorem cE.act (h:cE W N w0 M g s a w) {a':Act} (h1:a'.tmps.size=N) (h2:a'.defers=[]) (h3: ∀ d:Nat,a'.tmps[d]? =a.tmps[d]?):cE W N w0 M g s a' w:=
 ⟨h1,h2,fun d v hv=>(h3 d).trans (h.env d v hv),h.names,h.mem,h.own,h.frame,h.kJ,h.tabs⟩
theorem cE.abO (h:cE W N w0 M g s a w) {d:Nat} (hd:s.env d=none) (u:Value):cE W N w0 M g s (a.put (some d) u) w:=by
 have:=h.Gc (d:=some d) u
 have e:s.put (some d) none=s:=by
  cases s
  simp only[AS.put,AS.mk.injEq,and_true]
  funext x
  simp only[upd]
  split
  ·rename_i e;subst e;exact hd.symm
  ·rfl
 rwa [e]at this
structure Inv (P:Program) [Tables P] (W1:Nat→Prop) (N:Nat) (w1:gF P) (ops:Array Oper) (base:Nat) (A R Z F:List Nat) (env:Nat→Option AV) (g0:bG) (L:Array Bool) (done rem:List Nat) (g:bG) (sp:AS) (ap a:Act) (w:World) (βf:Nat→Nat):Prop where
 main:cE W1 N w1 (fun n=>n < base+4*(done.length+1)) g sp ap w
 link: ∀ d:Nat,(∀ i ∈ A, ¬ L.getD i false=true→d ∉ fv ops i)→ap.tmps[d]? =a.tmps[d]?
 asz:a.tmps.size=N
 adf:a.defers=[]
 abP: ∀ d ∈ dstsOf ops A,sp.env d=env d
 abQ: ∀ d ∈ dstsOf ops Z,sp.env d=none
 ro: ∀ d v,env d=some v→(∀ i ∈ A, ¬ L.getD i false=true→d ∉ fv ops i)→a.tmps[d]? =some (AV.av g0 v)
 zs: ∀ i ∈ Z,L.getD i false=true→aeN P ops w1.heap.size g sp a w i (βf i)
 zi: ∀ i ∈ Z, ∀ j ∈ Z,L.getD i false=true→L.getD j false=true→i≠j→βf i≠βf j
 lD: ∀ i ∈ done,L.getD i false=true
 lR: ∀ i ∈ rem, ¬ L.getD i false=true
 lF: ∀ i ∈ F, ¬ L.getD i false=true
structure OD (P:Program) (ops:Array Oper) (A R Z F:List Nat):Prop where
 all: ∀ i,i < ops.size→i ∈ A∨i ∈ R∨i ∈ Z∨i ∈ F
 inA: ∀ i ∈ A, ∃ o d,ops[i]? =some o∧isPure o.op=true∧o.dst=some d∧(∀ x ∈ o.looksAt ops,x ∉ dstsOf ops (R++Z++F))∧ ∀ j ∈ A, ∀ x ∈ fv ops j,x ∈ o.looksAt ops→waits ops ops.size i j=true
 dA: ∀ x ∈ dstsOf ops A,x ∉ dstsOf ops (R++Z++F)
 rA:ZH ops A=true
 jA: ∀ i ∈ A,i ∉ R++Z++F
 jR: ∀ i ∈ R,i ∉ Z++F
 jZ: ∀ i ∈ Z,i ∉ F
 inR: ∀ i ∈ R, ∃ o f xs tys,ops[i]? =some o∧o.op= .call ⟨.value (.func f),xs,tys⟩∧ai P f=true∧ ∀ j ∈ A, ∀ x ∈ fv ops j,x ∈ o.looksAt ops→waits ops ops.size i j=true
 cR:jK ops R=true
 dR: ∀ x ∈ dstsOf ops R,x ∉ dstsOf ops Z
 inZ: ∀ i ∈ Z, ∃ o t d,ops[i]? =some o∧o.op= .alloc t∧o.dst=some d
 dZ: ∀ i ∈ Z, ∀ j ∈ Z,i≠j→ ∀ x ∈ fv ops i,x ∉ fv ops j
 nZ:Z.Nodup
 zero: ∀ i ∈ Z, ∀ o t,ops[i]? =some o→o.op= .alloc t→ ∃ zl,zeroOf P t=some zl
 inF: ∀ i ∈ F,i < ops.size∧ ∀ j ∈ A++R++Z,waits ops ops.size i j=true
 cF:jK ops F=true
theorem VN {a ap:Act} {x:Operand} (h: ∀ t,x= .tmp t→ap.tmps[t]? =a.tmps[t]?):ap.eval x=a.eval x:=by
 cases x with
 | tmp t=>simp[Act.eval,Array.getD_eq_getD_getElem?,h t rfl]
 | const c=>rfl
 | global n=>rfl
 | func f=>rfl
theorem wO {a:Act} {d:Nat} {u:Value} {x:Nat} (hd:d < a.tmps.size):(a.put (some d) u).tmps[x]? =if x=d then some u else a.tmps[x]? :=by
 simp only[Act.put]
 by_cases e:x=d
 ·subst e;rw[if_pos rfl,Array.getElem?_setIfInBounds_self_of_lt hd]
 ·rw[if_neg e,Array.getElem?_setIfInBounds_ne (fun x=>e x.symm)]
theorem Bn {a:Act} {d:Option Nat} {u:Value}:(a.put d u).tmps.size=a.tmps.size:=by cases d<;>simp[Act.put]
theorem put_defers {a:Act} {d:Option Nat} {u:Value}:(a.put d u).defers=a.defers:=by cases d<;>rfl
theorem sa {i d:Nat} (ho:ops[i]? =some o) (hd:o.dst=some d):d ∈ fv ops i:=by rw[kx ho,hd];simp
theorem dst_eq {i d x:Nat} (ho:ops[i]? =some o) (hd:o.dst=some d) (hx:x ∈ fv ops i):x=d:=by rw[kx ho,hd]at hx;simpa using hx
theorem GX {i x:Nat} {l:List Nat} (hi:i ∈ l) (hx:x ∈ fv ops i):x ∈ dstsOf ops l:=by
 cases ho:ops[i]? with
 | none=>unfold fv at hx;rw[ho]at hx;simp at hx
 | some o=>
  rw[kx ho]at hx
  exact fw ho (by simpa using hx) hi
end
end Go.cA
