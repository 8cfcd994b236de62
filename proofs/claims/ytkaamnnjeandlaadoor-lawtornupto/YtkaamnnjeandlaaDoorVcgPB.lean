/-
  The function at whatever is handed in: it returns true and writes nothing that was there.
-/
import Derived.Test.YtkaamnnjeandlaaDoorVcgPL
import Derived.Test.YtkaamnnjeandlaaDoorVcgX5
import Derived.Deep.DeepHandedRow
import Derived.Deep.DeepWitnessRowRef
set_option maxRecDepth 100000
set_option linter.unusedVariables false
set_option linter.unusedSimpArgs false
namespace Go.Proofs.YtkaamnnjeandlaaDoor.lawTornDone

open Go.ChangeShapes Go.WideShapes Go.ChangeAt Go.RowKit
open Go.bM
set_option linter.unusedVariables false
set_option linter.unusedSimpArgs false
abbrev xJ:=SV×(Nat×Nat)×List SV
def KO (w:World) (l:Nat×Nat) (cs:List SV):Prop:=l.1 < w.heap.size∧ ∀ (g:Where) i x,cs[i]? =some x→w.cell? ⟨l.1,l.2+i,none⟩=some (SV.ah g x)
theorem Am [aV] {w:World} {v:Value} {n t:Nat} {f:Nat→Int} (h0:0 < w.heap.size) (h:ov w v n f):
  ∃ y:xJ,(∀ g:Where,g t=y.2.1→SV.ah g y.1=v)∧cY t y.1 n f y.2.2∧y.2.2.all SV.plain=true∧KO w y.2.1 y.2.2:=by
 rcases h with ⟨a,rfl,rfl⟩ | ⟨b,o,c,rfl,hb,hc,hf⟩
 ·exact ⟨(.inl (.slice a 0 0),(0,0),[]),fun g _=>rfl, .inl ⟨⟨a,rfl⟩,rfl⟩,rfl,h0,fun g i x hx=>by cases hx⟩
 ·refine ⟨(.inr (.inr (t,0,n,c)),(b,o),aA .u8 n f),fun g hg=> ?_, .inr ⟨0,c,rfl,hc,mK⟩,aD,hb,fun g i x hx=> ?_⟩
  ·show Value.slice (some ⟨(g t).1,(g t).2+0,none⟩) n c=_
   rw[hg];rfl
  ·by_cases hi:i < n
   ·rw[bI .u8 n f i hi]at hx
    obtain rfl:=Option.some.inj hx
    exact hf i hi
   ·rw[List.getElem?_eq_none (by rw[aH];omega)]at hx;cases hx
def Rw (n:Nat) (f:Nat→Bool):List SV:=(List.range n).map fun i=>Sum.inl (.bool (f i))
theorem KP {n:Nat} {f:Nat→Bool}:(Rw n f).all SV.plain=true:=by
 unfold Rw
 rw[List.all_map,List.all_eq_true]
 intro x _
 rfl
theorem Jk {n:Nat} {f:Nat→Bool} {i:Nat} (h:i < n):(Rw n f)[i]? =some (Sum.inl (.bool (f i))):=by simp[Rw,h]
theorem xK [aV] {w:World} {v:Value} {n t:Nat} {f:Nat→Bool} (h0:0 < w.heap.size) (h:mY w v n f):
  ∃ y:xJ,(∀ g:Where,g t=y.2.1→SV.ah g y.1=v)∧ft t y.1 n f y.2.2∧y.2.2.all SV.plain=true∧KO w y.2.1 y.2.2:=by
 rcases h with ⟨a,rfl,rfl⟩ | ⟨b,o,c,rfl,hb,hc,hf⟩
 ·exact ⟨(.inl (.slice a 0 0),(0,0),[]),fun g _=>rfl, .inl ⟨⟨a,rfl⟩,rfl⟩,rfl,h0,fun g i x hx=>by cases hx⟩
 ·refine ⟨(.inr (.inr (t,0,n,c)),(b,o),Rw n f),fun g hg=> ?_, .inr ⟨0,c,rfl,fun i hi=>by rw[Nat.zero_add];exact Jk hi⟩,KP,hb,fun g i x hx=> ?_⟩
  ·show Value.slice (some ⟨(g t).1,(g t).2+0,none⟩) n c=_
   rw[hg];rfl
  ·by_cases hi:i < n
   ·rw[Jk hi]at hx
    obtain rfl:=Option.some.inj hx
    exact hf i hi
   ·rw[List.getElem?_eq_none (by simp[Rw];omega)]at hx;cases hx
theorem Jl {t n:Nat} {sv:SV} {f:Nat→Int} {cs:List SV} (h:cY t sv n f cs) (ht:t < 10000000):SV.ok (fun n=>n < 10000000) sv:=by
 rcases h with ⟨⟨a,rfl⟩,_⟩ | ⟨o,c,rfl,_⟩
 ·exact ⟨trivial,rfl⟩
 ·exact ⟨ht,rfl⟩
theorem Jm {t n:Nat} {sv:SV} {f:Nat→Bool} {cs:List SV} (h:ft t sv n f cs) (ht:t < 10000000):SV.ok (fun n=>n < 10000000) sv:=by
 rcases h with ⟨⟨a,rfl⟩,_⟩ | ⟨o,c,rfl,_⟩
 ·exact ⟨trivial,rfl⟩
 ·exact ⟨ht,rfl⟩
theorem Jn {ins:Nat→Option aG} {t n:Nat} {sv:SV} {f:Nat→Int} {cs:List SV} (h:cY t sv n f cs) (hb:ins t=some ⟨false,cs⟩) (hp:cs.all SV.plain=true):o7 ins sv n f:=by
 rcases h with h | ⟨o,c,rfl,h1,h2⟩
 ·exact .inl h
 ·exact .inr ⟨t,o,c,false,cs,rfl,h1,hb,hp,h2⟩
theorem Jo {ins:Nat→Option aG} {t n:Nat} {sv:SV} {f:Nat→Bool} {cs:List SV} (h:ft t sv n f cs) (hb:ins t=some ⟨false,cs⟩) (hp:cs.all SV.plain=true):sE ins sv n f:=by
 rcases h with h | ⟨o,c,rfl,h2⟩
 ·exact .inl h
 ·exact .inr ⟨t,o,c,false,cs,rfl,hb,hp,h2⟩
theorem KQ [aV] {w:World} {v:Value} {K:Nat} {vs:Nat→Value} {ms:Nat→Nat} {fs:Nat→Nat→Int} (h0:0 < w.heap.size) (ps:Nat→SV) (hn: ∀ i,i < K→SV.ok (fun n=>n < 10000000) (ps i)) (h:r7 w v K vs ms fs):
  ∃ y:xJ,(∀ g:Where,g 1=y.2.1→SV.ah g y.1=v)∧dI 1 (some [Sum.inl (Sum.inl y.1)])=some (some (I .i64 K),none)∧SV.ok (fun n=>n < 10000000) y.1∧(0 < K→ ∃ o c,y.1= .inr (.inr (1,o,K,c))∧ ∀ i,i < K→y.2.2[o+i]? =some (ps i))∧
   (∀ x ∈ y.2.2,SV.ok (fun n=>n < 10000000) x)∧y.2.1.1 < w.heap.size∧ ∀ g:Where,(∀ i,i < K→SV.ah g (ps i)=vs i)→ ∀ i x,y.2.2[i]? =some x→w.cell? ⟨y.2.1.1,y.2.1.2+i,none⟩=some (SV.ah g x):=by
 rcases h with ⟨a,rfl,rfl⟩ | ⟨b,o,c,rfl,hb,hc,hf⟩
 ·exact ⟨(.inl (.slice a 0 0),(0,0),[]),fun g _=>rfl,rfl,⟨trivial,rfl⟩,fun h=>absurd h (Nat.lt_irrefl 0),fun x hx=>(by cases hx),h0,fun g _ i x hx=>by cases hx⟩
 ·have o5: ∀ i,i < K→((List.range K).map ps)[i]? =some (ps i):=fun i hi=>by
   rw[List.getElem?_map,List.getElem?_range hi];rfl
  refine ⟨(.inr (.inr (1,0,K,c)),(b,o),(List.range K).map ps),fun g hg=> ?_,rfl,⟨(by decide:1 < 10000000),rfl⟩,fun _=>⟨0,c,rfl,fun i hi=>by rw[Nat.zero_add];exact o5 i hi⟩,fun x hx=> ?_,hb,fun g hg i x hx=> ?_⟩
  ·show Value.slice (some ⟨(g 1).1,(g 1).2+0,none⟩) K c=_
   rw[hg];rfl
  ·rw[List.mem_map]at hx
   obtain ⟨i,hi,rfl⟩:=hx
   exact hn i (List.mem_range.1 hi)
  ·by_cases hi:i < K
   ·rw[o5 i hi]at hx
    obtain rfl:=Option.some.inj hx
    rw[hg i hi]
    exact (hf i hi).1
   ·rw[List.getElem?_eq_none (by rw[List.length_map,List.length_range];omega)]at hx;cases hx
def yk (ca cc:Nat→Int) (ks:Nat→SV) (j:Nat):SV:=if j%3=0 then Sum.inl (.int .i64 (ca (j / 3))) else if j%3=1 then ks (j / 3) else Sum.inl (.int .i64 (cc (j / 3)))
theorem Ao [aV] {w:World} {v:Value} {K t:Nat} {ca cc:Nat→Int} {vk:Nat→Value} {kn:Nat→Nat} {kb:Nat→Nat→Bool} (h0:0 < w.heap.size) (ht:t < 10000000) (ks:Nat→SV) (hn: ∀ i,i < K→SV.ok (fun n=>n < 10000000) (ks i)) (h:ox w v K ca cc vk kn kb):
  ∃ y:xJ,(∀ g:Where,g t=y.2.1→SV.ah g y.1=v)∧dI 1 (some [Sum.inl (Sum.inl y.1)])=some (some (I .i64 K),none)∧SV.ok (fun n=>n < 10000000) y.1∧
   (0 < K→ ∃ o c,y.1= .inr (.inr (t,o,K,c))∧ ∀ i,i < K→y.2.2[o+i*3]? =some (Sum.inl (.int .i64 (ca i)))∧y.2.2[o+i*3+1]? =some (ks i)∧y.2.2[o+i*3+2]? =some (Sum.inl (.int .i64 (cc i))))∧
   (∀ x ∈ y.2.2,SV.ok (fun n=>n < 10000000) x)∧y.2.1.1 < w.heap.size∧ ∀ g:Where,(∀ i,i < K→SV.ah g (ks i)=vk i)→ ∀ i x,y.2.2[i]? =some x→w.cell? ⟨y.2.1.1,y.2.1.2+i,none⟩=some (SV.ah g x):=by
 rcases h with ⟨a,rfl,rfl⟩ | ⟨b,o,c,rfl,hb,hc,hf⟩
 ·exact ⟨(.inl (.slice a 0 0),(0,0),[]),fun g _=>rfl,rfl,⟨trivial,rfl⟩,fun h=>absurd h (Nat.lt_irrefl 0),fun x hx=>(by cases hx),h0,fun g _ i x hx=>by cases hx⟩
 ·have o5: ∀ j,j < K*3→((List.range (K*3)).map (yk ca cc ks))[j]? =some (yk ca cc ks j):=fun j hj=>by
   rw[List.getElem?_map,List.getElem?_range hj];rfl
  have c0: ∀ i,yk ca cc ks (i*3)=Sum.inl (.int .i64 (ca i)):=fun i=>by
   unfold yk
   rw[if_pos (by omega),show i*3 / 3=i by omega]
  have c1: ∀ i,yk ca cc ks (i*3+1)=ks i:=fun i=>by
   unfold yk
   rw[if_neg (by omega),if_pos (by omega),show (i*3+1) / 3=i by omega]
  have c2: ∀ i,yk ca cc ks (i*3+2)=Sum.inl (.int .i64 (cc i)):=fun i=>by
   unfold yk
   rw[if_neg (by omega),if_neg (by omega),show (i*3+2) / 3=i by omega]
  refine ⟨(.inr (.inr (t,0,K,c)),(b,o),(List.range (K*3)).map (yk ca cc ks)),fun g hg=> ?_,rfl,⟨ht,rfl⟩,fun _=>⟨0,c,rfl,fun i hi=>⟨?_, ?_, ?_⟩⟩,fun x hx=> ?_,hb,fun g hg j x hx=> ?_⟩
  ·show Value.slice (some ⟨(g t).1,(g t).2+0,none⟩) K c=_
   rw[hg];rfl
  ·rw[Nat.zero_add, ← c0 i];exact o5 _ (by omega)
  ·rw[Nat.zero_add, ← c1 i];exact o5 _ (by omega)
  ·rw[Nat.zero_add, ← c2 i];exact o5 _ (by omega)
  ·rw[List.mem_map]at hx
   obtain ⟨j,hj,rfl⟩:=hx
   rw[List.mem_range]at hj
   unfold yk
   split
   ·exact ⟨trivial,rfl⟩
   ·split
    ·exact hn _ (by omega)
    ·exact ⟨trivial,rfl⟩
  ·by_cases hj:j < K*3
   ·rw[o5 j hj]at hx
    obtain rfl:=Option.some.inj hx
    obtain ⟨k0,k1,k2,_⟩:=hf (j / 3) (by omega)
    rcases (show j%3=0∨j%3=1∨j%3=2 by omega) with h | h | h
    ·rw[show j=j / 3*3 by omega,c0]
     exact k0
    ·rw[show j=j / 3*3+1 by omega,c1,hg _ (by omega)]
     exact k1
    ·rw[show j=j / 3*3+2 by omega,c2]
     exact k2
   ·rw[List.getElem?_eq_none (by rw[List.length_map,List.length_range];omega)]at hx;cases hx
open Go.ChangeShapes Go.WideShapes Go.ChangeAt Go.RowKit
open Go.bM
set_option linter.unusedVariables false
set_option linter.unusedSimpArgs false
theorem r7.el {w:World} {v:Value} {n:Nat} {vs:Nat→Value} {ms:Nat→Nat} {fs:Nat→Nat→Int} (h:r7 w v n vs ms fs) {i:Nat} (hi:i < n):ov w (vs i) (ms i) (fs i):=by
 rcases h with ⟨a,_,rfl⟩ | ⟨b,o,c,_,_,_,hf⟩
 ·omega
 ·exact (hf i hi).2
theorem ox.el {w:World} {v:Value} {n:Nat} {ca cc:Nat→Int} {ks:Nat→Value} {kn:Nat→Nat} {kb:Nat→Nat→Bool} (h:ox w v n ca cc ks kn kb) {i:Nat} (hi:i < n):mY w (ks i) (kn i) (kb i):=by
 rcases h with ⟨a,_,rfl⟩ | ⟨b,o,c,_,_,_,hf⟩
 ·omega
 ·exact (hf i hi).2.2.2
def GZ:xJ:=(.inl (.slice none 0 0),(0,0),[])
def oH {α:Type} (a0 a1 a2 a3:α) (F G H:Nat→α) (t:Nat):α:=
 if t=0 then a0 else if t=1 then a1 else if t=2 then a2 else if t=3 then a3 else if (t - 4)%3=0 then F ((t - 4) / 3) else if (t - 4)%3=1 then G ((t - 4) / 3) else H ((t - 4) / 3)
section
variable {α:Type} {a0 a1 a2 a3:α} {F G H:Nat→α}
theorem E1 {i:Nat}:oH a0 a1 a2 a3 F G H (4+3*i)=F i:=by
 unfold oH
 rw[if_neg (by omega),if_neg (by omega),if_neg (by omega),if_neg (by omega),if_pos (by omega),show (4+3*i - 4) / 3=i by omega]
theorem E2 {i:Nat}:oH a0 a1 a2 a3 F G H (5+3*i)=G i:=by
 unfold oH
 rw[if_neg (by omega),if_neg (by omega),if_neg (by omega),if_neg (by omega),if_neg (by omega),if_pos (by omega),show (5+3*i - 4) / 3=i by omega]
theorem E3 {i:Nat}:oH a0 a1 a2 a3 F G H (6+3*i)=H i:=by
 unfold oH
 rw[if_neg (by omega),if_neg (by omega),if_neg (by omega),if_neg (by omega),if_neg (by omega),if_neg (by omega),show (6+3*i - 4) / 3=i by omega]
theorem xL {P:Nat→α→Prop} (h0:P 0 a0) (h1:P 1 a1) (h2:P 2 a2) (h3:P 3 a3) (hF: ∀ i,P (4+3*i) (F i)) (hG: ∀ i,P (5+3*i) (G i)) (hH: ∀ i,P (6+3*i) (H i)) (t:Nat):P t (oH a0 a1 a2 a3 F G H t):=by
 rcases (show t=0∨t=1∨t=2∨t=3∨(∃ i,t=4+3*i)∨(∃ i,t=5+3*i)∨ ∃ i,t=6+3*i by
  rcases (show t < 4∨4≤t by omega) with h | h
  ·omega
  ·rcases (show (t - 4)%3=0∨(t - 4)%3=1∨(t - 4)%3=2 by omega) with h | h | h
   ·exact .inr (.inr (.inr (.inr (.inl ⟨(t - 4) / 3,by omega⟩))))
   ·exact .inr (.inr (.inr (.inr (.inr (.inl ⟨(t - 4) / 3,by omega⟩)))))
   ·exact .inr (.inr (.inr (.inr (.inr (.inr ⟨(t - 4) / 3,by omega⟩)))))) with rfl | rfl | rfl | rfl | ⟨i,rfl⟩ | ⟨i,rfl⟩ | ⟨i,rfl⟩
 ·exact h0
 ·exact h1
 ·exact h2
 ·exact h3
 ·rw[E1];exact hF i
 ·rw[E2];exact hG i
 ·rw[E3];exact hH i
end
theorem walk [aV] {w:World} {rg:Int} {v1 v2 v3 v4:Value} {n0 K Kc Ka:Nat} {f0:Nat→Int} {vs:Nat→Value} {ms:Nat→Nat} {fs:Nat→Nat→Int} {ca cc aa ac:Nat→Int} {vk va:Nat→Value} {cn an:Nat→Nat} {cb ab:Nat→Nat→Bool} (hl:Laid Tryd.prog w)
  (h1:ov w v1 n0 f0) (q1:cU f0) (m1:n0≤1048576) (h2:r7 w v2 K vs ms fs) (q2: ∀ i,cU (fs i)) (m2: ∀ i,ms i≤1048576) (hK:K≤1048576) (h3:ox w v3 Kc ca cc vk cn cb) (XW:Kc≤1048576) (h4:ox w v4 Ka aa ac va an ab) (XX:Ka≤1048576):
  Calls Tryd.prog 3 #[.int .i64 rg,v1,v2,v3,v4] w fun e w'=>e= .returned (.bool true)∧Below w.heap.size w w':=by
 have hz:0 < w.heap.size:=(hl.rows 0 _ Tryd.RH).1
 have N9:KO w (0,0) []:=⟨hz,fun g i x hx=>by cases hx⟩
 obtain ⟨Y0,c0,s0,p0,L0⟩:=Am (t:=0) hz h1
 have eF: ∀ i, ∃ y:xJ,(i < K→(∀ g:Where,g (4+3*i)=y.2.1→SV.ah g y.1=vs i)∧cY (4+3*i) y.1 (ms i) (fs i) y.2.2)∧y.2.2.all SV.plain=true∧KO w y.2.1 y.2.2:=fun i=>by
  by_cases hi:i < K
  ·obtain ⟨y,k1,k2,k3,k4⟩:=Am (t:=4+3*i) hz (h2.el hi)
   exact ⟨y,fun _=>⟨k1,k2⟩,k3,k4⟩
  ·exact ⟨GZ,fun h=>absurd h hi,rfl,N9⟩
 have eG: ∀ i, ∃ y:xJ,(i < Kc→(∀ g:Where,g (5+3*i)=y.2.1→SV.ah g y.1=vk i)∧ft (5+3*i) y.1 (cn i) (cb i) y.2.2)∧y.2.2.all SV.plain=true∧KO w y.2.1 y.2.2:=fun i=>by
  by_cases hi:i < Kc
  ·obtain ⟨y,k1,k2,k3,k4⟩:=xK (t:=5+3*i) hz (h3.el hi)
   exact ⟨y,fun _=>⟨k1,k2⟩,k3,k4⟩
  ·exact ⟨GZ,fun h=>absurd h hi,rfl,N9⟩
 have eH: ∀ i, ∃ y:xJ,(i < Ka→(∀ g:Where,g (6+3*i)=y.2.1→SV.ah g y.1=va i)∧ft (6+3*i) y.1 (an i) (ab i) y.2.2)∧y.2.2.all SV.plain=true∧KO w y.2.1 y.2.2:=fun i=>by
  by_cases hi:i < Ka
  ·obtain ⟨y,k1,k2,k3,k4⟩:=xK (t:=6+3*i) hz (h4.el hi)
   exact ⟨y,fun _=>⟨k1,k2⟩,k3,k4⟩
  ·exact ⟨GZ,fun h=>absurd h hi,rfl,N9⟩
 obtain ⟨F,hF⟩:=Classical.axiomOfChoice eF
 obtain ⟨G,hG⟩:=Classical.axiomOfChoice eG
 obtain ⟨H,hH⟩:=Classical.axiomOfChoice eH
 have nF: ∀ i,i < K→SV.ok (fun n=>n < 10000000) (F i).1:=fun i hi=>Jl ((hF i).1 hi).2 (by omega)
 have nG: ∀ i,i < Kc→SV.ok (fun n=>n < 10000000) (G i).1:=fun i hi=>Jm ((hG i).1 hi).2 (by omega)
 have nH: ∀ i,i < Ka→SV.ok (fun n=>n < 10000000) (H i).1:=fun i hi=>Jm ((hH i).1 hi).2 (by omega)
 obtain ⟨Y1,c1,l1,n1,a1,k1,L1,M1⟩:=KQ hz (fun i=>(F i).1) nF h2
 obtain ⟨Y2,c2,l2,n2,a2,k2,L2,M2⟩:=Ao (t:=2) hz (by decide) (fun i=>(G i).1) nG h3
 obtain ⟨Y3,c3,l3,n3,a3,k3,L3,M3⟩:=Ao (t:=3) hz (by decide) (fun i=>(H i).1) nH h4
 obtain ⟨Y,hY⟩: ∃ Y:Nat→xJ,Y=oH Y0 Y1 Y2 Y3 F G H:=⟨_,rfl⟩
 have y0:Y 0=Y0:=by rw[hY];rfl
 have y1:Y 1=Y1:=by rw[hY];rfl
 have y2:Y 2=Y2:=by rw[hY];rfl
 have y3:Y 3=Y3:=by rw[hY];rfl
 have yF: ∀ i,Y (4+3*i)=F i:=fun i=>by rw[hY,E1]
 have yG: ∀ i,Y (5+3*i)=G i:=fun i=>by rw[hY,E2]
 have yH: ∀ i,Y (6+3*i)=H i:=fun i=>by rw[hY,E3]
 obtain ⟨g,hg⟩: ∃ g:Where,g=fun t=>(Y t).2.1:=⟨_,rfl⟩
 have gt: ∀ t,g t=(Y t).2.1:=fun t=>by rw[hg]
 have cF: ∀ i,i < K→SV.ah g (F i).1=vs i:=fun i hi=>((hF i).1 hi).1 g (by rw[gt,yF])
 have cG: ∀ i,i < Kc→SV.ah g (G i).1=vk i:=fun i hi=>((hG i).1 hi).1 g (by rw[gt,yG])
 have cH: ∀ i,i < Ka→SV.ah g (H i).1=va i:=fun i hi=>((hH i).1 hi).1 g (by rw[gt,yH])
 have hmem: ∀ t,(Y t).2.1.1 < w.heap.size∧ ∀ i x,(Y t).2.2[i]? =some x→w.cell? ⟨(Y t).2.1.1,(Y t).2.1.2+i,none⟩=some (SV.ah g x):=by
  rw[hY]
  refine xL (P:=fun _ (y:xJ)=>y.2.1.1 < w.heap.size∧ ∀ i x,y.2.2[i]? =some x→w.cell? ⟨y.2.1.1,y.2.1.2+i,none⟩=some (SV.ah g x)) ⟨L0.1,L0.2 g⟩ ⟨L1,M1 g cF⟩ ⟨L2,M2 g cG⟩ ⟨L3,M3 g cH⟩ (fun i=>⟨(hF i).2.2.1,(hF i).2.2.2 g⟩) (fun i=>⟨(hG i).2.2.1,(hG i).2.2.2 g⟩) (fun i=>⟨(hH i).2.2.1,(hH i).2.2.2 g⟩)
 have Xa: ∀ t, ∀ x ∈ (Y t).2.2,SV.ok (fun n=>n < 10000000) x:=by
  rw[hY]
  exact xL (P:=fun _ (y:xJ)=> ∀ x ∈ y.2.2,SV.ok (fun n=>n < 10000000) x) (ai p0) k1 k2 k3 (fun i=>ai (hF i).2.1) (fun i=>ai (hG i).2.1) (fun i=>ai (hH i).2.1)
 obtain ⟨ins,UU⟩: ∃ ins:Nat→Option aG,ins=fun t=>if t < 10000000 then some ⟨false,(Y t).2.2⟩ else none:=⟨_,rfl⟩
 have it: ∀ t,t < 10000000→ins t=some ⟨false,(Y t).2.2⟩:=fun t ht=>by rw[UU];exact if_pos ht
 have ib: ∀ t b,ins t=some b→t < 10000000∧b=⟨false,(Y t).2.2⟩:=fun t b hb=>by
  rw[UU]at hb
  by_cases h:t < 10000000
  ·rw[show (fun t=>if t < 10000000 then some (⟨false,(Y t).2.2⟩:aG) else none) t=some ⟨false,(Y t).2.2⟩ from if_pos h]at hb
   exact ⟨h,(Option.some.inj hb).symm⟩
  ·rw[show (fun t=>if t < 10000000 then some (⟨false,(Y t).2.2⟩:aG) else none) t=none from if_neg h]at hb
   cases hb
 have i0:=it 0 (by decide)
 have i1:=it 1 (by decide)
 have i2:=it 2 (by decide)
 have i3:=it 3 (by decide)
 rw[y0]at i0
 rw[y1]at i1
 rw[y2]at i2
 rw[y3]at i3
 have hm:=(Sp (ins:=ins) (rg:=rg) (s1:=Y0.1) (s2:=Y1.1) (s3:=Y2.1) (s4:=Y3.1) (n0:=n0) (K:=K) (Kc:=Kc) (Ka:=Ka) (f0:=f0) (ps:=fun i=>(F i).1) (pn:=ms) (pf:=fs) (ca:=ca) (cc:=cc) (aa:=aa) (ac:=ac) (ck:=fun i=>(G i).1) (ak:=fun i=>(H i).1) (cn:=cn) (an:=an) (cb:=cb) (ab:=ab)
  (fun n hn=>⟨_,it n hn⟩) (fun n b hb=>by
   obtain ⟨k,rfl⟩:=ib n b hb
   exact ⟨k,Xa n⟩) (fun n b hb=>by
   obtain ⟨_,rfl⟩:=ib n b hb
   rfl) ⟨_,i0,p0⟩ (Jn s0 i0 p0) (Jl s0 (by decide)) q1 m1 s0.len
  ⟨l1,n1,fun h=>by
   obtain ⟨o,c,e1,e2⟩:=a1 h
   exact ⟨o,c,_,e1,i1,e2⟩,fun i hi=>⟨Jn ((hF i).1 hi).2 (by rw[it _ (by omega),yF]) (hF i).2.1,nF i hi,q2 i,m2 i⟩⟩
  ⟨l2,n2,fun h=>by
   obtain ⟨o,c,e1,e2⟩:=a2 h
   exact ⟨o,c,_,e1,i2,e2⟩,fun i hi=>⟨Jo ((hG i).1 hi).2 (by rw[it _ (by omega),yG]) (hG i).2.1,nG i hi⟩⟩
  ⟨l3,n3,fun h=>by
   obtain ⟨o,c,e1,e2⟩:=a3 h
   exact ⟨o,c,_,e1,i3,e2⟩,fun i hi=>⟨Jo ((hH i).1 hi).2 (by rw[it _ (by omega),yH]) (hH i).2.1,nH i hi⟩⟩ hK XW XX).call (fun _=>False) g w hl (fun _ _ _ h=>h)
  ⟨fun t b hb=>by
   obtain ⟨_,rfl⟩:=ib t b hb
   rw[gt];exact (hmem t).1,fun t b hb i x hx=>by
   obtain ⟨_,rfl⟩:=ib t b hb
   rw[gt];exact (hmem t).2 i x hx,fun t b hb hrw=>(by
   obtain ⟨_,rfl⟩:=ib t b hb
   cases hrw),fun t t' b b' hb hrw=>(by
   obtain ⟨_,rfl⟩:=ib t b hb
   cases hrw)⟩ (fun t b hb hrw=>by
   obtain ⟨_,rfl⟩:=ib t b hb
   cases hrw)
 have d1:SV.ah g Y0.1=v1:=c0 g (by rw[gt,y0])
 have d2:SV.ah g Y1.1=v2:=c1 g (by rw[gt,y1])
 have d3:SV.ah g Y2.1=v3:=c2 g (by rw[gt,y2])
 have d4:SV.ah g Y3.1=v4:=c3 g (by rw[gt,y3])
 rw[← d1, ← d2, ← d3, ← d4]
 refine hm.mono ?_
 rintro e w' ⟨r,out,g',rfl,⟨rfl,rfl⟩,_,_,_,_,_,hfr⟩
 exact ⟨rfl,Kept.below hfr⟩
open Go.ChangeShapes Go.WideShapes Go.ChangeAt Go.RowKit
open Go.bM
set_option linter.unusedVariables false
set_option linter.unusedSimpArgs false
theorem Oa (os:Os) (args:Array Value):laidMetH Tryd.prog tabs ((World.doorLaid Tryd.prog 4000 os).forCall (fun _ _=>0) ⟨#[],args,[]⟩).memory:=
 laidMetH_of_parts3 (fuel:=8) (laidMet_of_run' 8 (by kernel_rfl) (by kernel_rfl)) (by kernel_rfl) (by kernel_rfl)
theorem bound {H:Type} {l:List (DataW H)} (h:Rows.uptoSmall H l=true):Rows.uptoBulkAll l≤1048576:=of_decide_eq_true h
theorem contract (H:Type) (enc:TypeId×Value→H) (W:World) (base:Nat) (args:Array Value) (ds gs:List (DataW H)) (before:List MemPlace)
  (hval: ∀ (j:Nat) t v,Tryd.f3.params[j]? =some t→args[j]? =some v→Value.okWide Tryd.prog W .any base t v)
  (hW:DataW.Whole enc Tryd.prog Tryd.f3.params.toList Rows.lawTornSpec.vars false W args.toList ds gs before) (hk:Rows.uptoSmall H (ds++gs)=true) (hL:laidMetH Tryd.prog tabs W):
  Calls Tryd.prog 3 args W fun e W'=> ∃ v,e= .returned v∧Rows.lawTornSpec.post enc Tryd.prog Tryd.f3 false true false false W args v W':=by
 have ZW:=hW
 have l6:=bound hk
 obtain ⟨p,q,Yj,hV,rfl,hfz,hnd⟩:=hW
 have hA:DataW.TrodAll enc Tryd.prog W 0 (fun _=>true) true Tryd.f3.params.toList args.toList ds p:=Yj
 rw[Tryd.params3]at hA hval
 obtain ⟨v0,vs0,e0,ds0,p0,q0,hargs,rfl,rfl,h0,r0⟩:=trodAll_cons hA
 obtain ⟨v1,vs1,e1,ds1,p1,q1,rfl,rfl,rfl,h1,r1⟩:=trodAll_cons r0
 obtain ⟨v2,vs2,e2,ds2,p2,q2,rfl,rfl,rfl,h2,r2⟩:=trodAll_cons r1
 obtain ⟨v3,vs3,e3,ds3,p3,q3,rfl,rfl,rfl,h3,r3⟩:=trodAll_cons r2
 obtain ⟨v4,vs4,e4,ds4,p4,q4,rfl,rfl,rfl,h4,r4⟩:=trodAll_cons r3
 obtain ⟨rfl,rfl,rfl⟩:=trodAll_nil r4
 obtain rfl:args= #[v0,v1,v2,v3,v4]:=by cases args;simp_all
 obtain ⟨rfl,rfl⟩:=trodVars_none hV
 have b1:=l8 (l:=[e0,e1,e2,e3,e4]++[]) (i:=1) (d:=e1) rfl
 have b2:=l8 (l:=[e0,e1,e2,e3,e4]++[]) (i:=2) (d:=e2) rfl
 have b3:=l8 (l:=[e0,e1,e2,e3,e4]++[]) (i:=3) (d:=e3) rfl
 have b4:=l8 (l:=[e0,e1,e2,e3,e4]++[]) (i:=4) (d:=e4) rfl
 have ZX: ∀ x ∈ p0,x.block < W.heap.size:=by obtain ⟨m,hm⟩:=h0;exact DataW.trod_lt m _ _ _ hm
 have ZY: ∀ x ∈ p1,x.block < W.heap.size:=by obtain ⟨m,hm⟩:=h1;exact DataW.trod_lt m _ _ _ hm
 have ZZ: ∀ x ∈ p2,x.block < W.heap.size:=by obtain ⟨m,hm⟩:=h2;exact DataW.trod_lt m _ _ _ hm
 have Z0: ∀ x ∈ p3,x.block < W.heap.size:=by obtain ⟨m,hm⟩:=h3;exact DataW.trod_lt m _ _ _ hm
 have Z1: ∀ x ∈ p4,x.block < W.heap.size:=by obtain ⟨m,hm⟩:=h4;exact DataW.trod_lt m _ _ _ hm
 obtain ⟨rg,rfl⟩: ∃ rg,v0= .int .i64 rg:=by
  obtain ⟨m,rfl,_⟩:=open_int Tryd.underlying3 (hval 0 3 v0 rfl rfl) h0
  exact ⟨m,rfl⟩
 obtain ⟨a1,UW,UX,rfl⟩:=okWide_slice Tryd.underlying22 (hval 1 22 v1 rfl rfl)
 obtain ⟨a2,UY,UZ,rfl⟩:=okWide_slice Tryd.underlying23 (hval 2 23 v2 rfl rfl)
 obtain ⟨a3,U0,U1,rfl⟩:=okWide_slice Tryd.underlying24 (hval 3 24 v3 rfl rfl)
 obtain ⟨a4,U2,U3,rfl⟩:=okWide_slice Tryd.underlying24 (hval 4 24 v4 rfl rfl)
 obtain ⟨n,f,bf,m1,i1⟩: ∃ n f,cU f∧n≤Rows.uptoBulk e1∧ov W (.slice a1 UW UX) n f:=by
  have h1':=h1
  obtain ⟨fuel,Pa⟩:=h1'
  obtain ⟨v,n,f,e,g1,g2,g3⟩:=r6 Pa
  obtain rfl:Value.slice a1 UW UX=v:=by simpa[Value.cells] using e
  exact ⟨n,f,g1,g2,g3⟩
 obtain ⟨K,vs,ms,fs,m2,bs,ns,i2⟩: ∃ n vs ms fs,n≤Rows.uptoBulk e2∧(∀ i,cU (fs i))∧(∀ i,ms i≤Rows.uptoBulk e2)∧r7 W (.slice a2 UY UZ) n vs ms fs:=by
  have h2':=h2
  obtain ⟨fuel,Pa⟩:=h2'
  obtain ⟨v,n,vs,ms,fs,e,g1,g2,g3,g4⟩:=J9 Pa
  obtain rfl:Value.slice a2 UY UZ=v:=by simpa[Value.cells] using e
  exact ⟨n,vs,ms,fs,g1,g2,g3,g4⟩
 obtain ⟨Kc,ca,cc,ck,cn,cb,m3,i3⟩: ∃ n ca cc ks kn kb,n≤Rows.uptoBulk e3∧ox W (.slice a3 U0 U1) n ca cc ks kn kb:=by
  have h3':=h3
  obtain ⟨fuel,Pa⟩:=h3'
  obtain ⟨v,n,ca,cc,ks,kn,kb,e,g1,g2⟩:=zQ Pa
  obtain rfl:Value.slice a3 U0 U1=v:=by simpa[Value.cells] using e
  exact ⟨n,ca,cc,ks,kn,kb,g1,g2⟩
 obtain ⟨Ka,aa,ac,ak,an,ab,m4,i4⟩: ∃ n ca cc ks kn kb,n≤Rows.uptoBulk e4∧ox W (.slice a4 U2 U3) n ca cc ks kn kb:=by
  have h4':=h4
  obtain ⟨fuel,Pa⟩:=h4'
  obtain ⟨v,n,ca,cc,ks,kn,kb,e,g1,g2⟩:=zQ Pa
  obtain rfl:Value.slice a4 U2 U3=v:=by simpa[Value.cells] using e
  exact ⟨n,ca,cc,ks,kn,kb,g1,g2⟩
 clear Yj
 obtain ⟨E,Z2⟩:=O9 hL
 refine (walk Z2 i1 bf (Nat.le_trans m1 (Nat.le_trans b1 l6)) i2 bs (fun i=>Nat.le_trans (ns i) (Nat.le_trans b2 l6)) (Nat.le_trans m2 (Nat.le_trans b2 l6)) i3 (Nat.le_trans m3 (Nat.le_trans b3 l6)) i4 (Nat.le_trans m4 (Nat.le_trans b4 l6))).mono fun e W' ⟨he,SS⟩=> ?_
 subst he
 exact ⟨_,rfl,_,_,_,[],_,[],ZW,trodAll_mk1 (shut_bool Tryd.underlying4 _),
  (trodAll_cons_mk (Below.trod laidOut (by kernel_rfl) (of_decide_eq_true (by kernel_rfl)) h0 SS ZX) (trodAll_cons_mk (Below.trod laidOut (by kernel_rfl) (of_decide_eq_true (by kernel_rfl)) h1 SS ZY) (trodAll_cons_mk (Below.trod laidOut (by kernel_rfl) (of_decide_eq_true (by kernel_rfl)) h2 SS ZZ) (trodAll_cons_mk (Below.trod laidOut (by kernel_rfl) (of_decide_eq_true (by kernel_rfl)) h3 SS Z0) (trodAll_cons_mk (Below.trod laidOut (by kernel_rfl) (of_decide_eq_true (by kernel_rfl)) h4 SS Z1) trodAll_mk0))))),rfl,SS.frame _,fun h=>by cases h⟩
def xM:Array Value:= #[.int .i64 0, .slice none 0 0, .slice none 0 0, .slice none 0 0, .slice none 0 0]
theorem reads (os:Os) {H:Type} (enc:TypeId×Value→H): ∃ places,DataW.whole enc Tryd.prog ((World.doorLaid Tryd.prog 4000 os).forCall (fun _ _=>0) ⟨#[],xM,[]⟩).memory Tryd.f3.params.toList Rows.lawTornSpec.vars false xM.toList 40=some ([.lit (.int .i64 0), .nil, .nil, .nil, .nil],[],places):=
 ⟨[],by kernel_rfl⟩
theorem lifted (os:Os) (started:os.Started) (H:Type) (enc:TypeId×Value→H) (F:Stop.Interp):
  ReturnsInHanded {} Tryd.checked os 3 .any ((Rows.OpenSpec.upto Rows.lawTornSpec).preRow enc Tryd.prog Tryd.f3 Rows.lawTornUptoRow.domain false Rows.lawTornUptoRow.laid) (((Rows.OpenSpec.upto Rows.lawTornSpec).at F).post enc Tryd.prog Tryd.f3 false true false false):=by
 obtain ⟨places,hx⟩:=reads os enc
 refine returnsInHanded_of_row (C:=Tryd.checked) (s:=Rows.OpenSpec.upto Rows.lawTornSpec) own started (by kernel_rfl) Tryd.func3
  (witness_row_atRef (enc:=enc) (C:=Tryd.checked) false (World.doorLaid Tryd.prog 4000 os) xM rfl (by kernel_rfl) (by kernel_rfl) (by kernel_rfl)
   (OpenSpec.preRow_of_cond 40 hx (by kernel_rfl) (fun k hk=>by cases hk;kernel_rfl) (by kernel_rfl) (Oa os _))) ?_
 intro W base args ds gs before hval hW _ nT _ hL _ _
 exact contract H enc W base args ds gs before hval hW (nT _ rfl) hL
theorem over:Rows.LawTornUptoSaid:=
 OpenClaim.holds_of_cond 3 Tryd.f3 rfl rfl rfl rfl rfl rfl rfl ⟨rfl,rfl,rfl,rfl,rfl⟩ rfl rfl rfl rfl rfl (by kernel_rfl) Tryd.func3 (by kernel_rfl)
  (of_decide_eq_true (by kernel_rfl)) (by unfold Func.isWrapper;first | (rw[if_pos (by decide+kernel)];kernel_rfl) | (rw[if_neg (by decide+kernel)];exact ⟨rfl,rfl⟩))
  (fun os started H enc _ F=>by rw[OpenClaim.pre_eq_preRow];exact lifted os started H enc F)
end Go.Proofs.YtkaamnnjeandlaaDoor.lawTornDone
