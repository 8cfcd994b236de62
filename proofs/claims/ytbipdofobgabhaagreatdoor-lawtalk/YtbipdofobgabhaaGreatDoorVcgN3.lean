/-
  The document's walk along a chain: the message keys, and the chain key behind the last.
-/
import Derived.Test.YtbipdofobgabhaaGreatDoorVcgD4
import Derived.Test.YtbipdofobgabhaaGreatDoorVcgKy
import Derived.Test.YtbipdofobgabhaaGreatDoorVcgW1
set_option linter.unusedSimpArgs false
set_option linter.unusedVariables false
set_option linter.unusedSectionVars false
set_option maxHeartbeats 8000000
set_option maxRecDepth 20000
namespace Go.Proofs.YtbipdofobgabhaaGreatDoor
open Go.bA
variable [aG]


def Y9 (n:Nat) (f g:Nat→Int):Bool:=decide ((List.range n).map f=(List.range n).map g)
theorem tR {x:Int} (h0:0≤x) (h1:x < 4294967296):g9 x 0*16777216+g9 x 1*65536+g9 x 2*256+g9 x 3=x:=by
 have e0:g9 x 0=x / 16777216%256:=by
  show IntKind.u8.wrap (x.fdiv 16777216)=_
  rw[Int.fdiv_eq_ediv_of_nonneg _ (by decide),wrap_u8]
 have e1:g9 x 1=x / 65536%256:=by
  show IntKind.u8.wrap (x.fdiv 65536)=_
  rw[Int.fdiv_eq_ediv_of_nonneg _ (by decide),wrap_u8]
 have e2:g9 x 2=x / 256%256:=by
  show IntKind.u8.wrap (x.fdiv 256)=_
  rw[Int.fdiv_eq_ediv_of_nonneg _ (by decide),wrap_u8]
 have e3:g9 x 3=x%256:=by
  show IntKind.u8.wrap (x.fdiv 1)=_
  rw[Int.fdiv_eq_ediv_of_nonneg _ (by decide),wrap_u8,Int.ediv_one]
 rw[e0,e1,e2,e3];omega
section
variable {aF tag body:Nat→Int} {pn n:Int} {m:Nat}
theorem abe:ua aF pn n m body tag 0=210:=by
 simp only[ua,bh];rw[if_pos (by omega)];rfl
theorem Vw (i:Nat) (hi:i < 32):ua aF pn n m body tag (1+i)=aF i:=by
 simp only[ua,bh]
 rw[if_pos (by omega),if_pos (by omega),if_pos (by omega),if_pos (by omega),if_pos (by omega),if_neg (by omega),show 1+i - 1=i by omega]
theorem DW (i:Nat) (hi:i < 4):ua aF pn n m body tag (33+i)=g9 pn i:=by
 simp only[ua,bh]
 rw[if_pos (by omega),if_pos (by omega),if_pos (by omega),if_pos (by omega),if_neg (by omega),show 33+i - 33=i by omega]
theorem Nd (i:Nat) (hi:i < 4):ua aF pn n m body tag (37+i)=g9 n i:=by
 simp only[ua,bh]
 rw[if_pos (by omega),if_pos (by omega),if_pos (by omega),if_neg (by omega),show 37+i - 37=i by omega]
theorem Nf (i:Nat) (hi:i < 4):ua aF pn n m body tag (41+i)=g9 m i:=by
 simp only[ua,bh]
 rw[if_pos (by omega),if_pos (by omega),if_neg (by omega),show 41+i - 41=i by omega]
theorem S0 (i:Nat) (hi:i < m):ua aF pn n m body tag (45+i)=body i:=by
 simp only[ua,bh]
 rw[if_pos (by omega),if_neg (by omega),show 45+i - 45=i by omega]
theorem Vx (i:Nat) (hi:i < 32):ua aF pn n m body tag (45+m+i)=tag i:=by
 simp only[ua,bh]
 rw[if_neg (by omega),show 45+m+i - (45+m)=i by omega]
theorem YE (h0:0≤pn) (h1:pn < 4294967296):ko (ua aF pn n m body tag) 33=pn:=by
 have a0:=DW (aF:=aF) (pn:=pn) (n:=n) (m:=m) (body:=body) (tag:=tag) 0 (by decide)
 have a1:=DW (aF:=aF) (pn:=pn) (n:=n) (m:=m) (body:=body) (tag:=tag) 1 (by decide)
 have a2:=DW (aF:=aF) (pn:=pn) (n:=n) (m:=m) (body:=body) (tag:=tag) 2 (by decide)
 have a3:=DW (aF:=aF) (pn:=pn) (n:=n) (m:=m) (body:=body) (tag:=tag) 3 (by decide)
 simp only[Nat.add_zero]at a0
 simp only[ko,a0,a1,a2,a3]
 exact tR h0 h1
theorem YF (h0:0≤n) (h1:n < 4294967296):ko (ua aF pn n m body tag) 37=n:=by
 have a0:=Nd (aF:=aF) (pn:=pn) (n:=n) (m:=m) (body:=body) (tag:=tag) 0 (by decide)
 have a1:=Nd (aF:=aF) (pn:=pn) (n:=n) (m:=m) (body:=body) (tag:=tag) 1 (by decide)
 have a2:=Nd (aF:=aF) (pn:=pn) (n:=n) (m:=m) (body:=body) (tag:=tag) 2 (by decide)
 have a3:=Nd (aF:=aF) (pn:=pn) (n:=n) (m:=m) (body:=body) (tag:=tag) 3 (by decide)
 simp only[Nat.add_zero]at a0
 simp only[ko,a0,a1,a2,a3]
 exact tR h0 h1
theorem YG (h1:m≤65536):ko (ua aF pn n m body tag) 41=m:=by
 have a0:=Nf (aF:=aF) (pn:=pn) (n:=n) (m:=m) (body:=body) (tag:=tag) 0 (by decide)
 have a1:=Nf (aF:=aF) (pn:=pn) (n:=n) (m:=m) (body:=body) (tag:=tag) 1 (by decide)
 have a2:=Nf (aF:=aF) (pn:=pn) (n:=n) (m:=m) (body:=body) (tag:=tag) 2 (by decide)
 have a3:=Nf (aF:=aF) (pn:=pn) (n:=n) (m:=m) (body:=body) (tag:=tag) 3 (by decide)
 simp only[Nat.add_zero]at a0
 simp only[ko,a0,a1,a2,a3]
 exact tR (by omega) (by omega)
end

def zK (f g:Nat→Int):Prop:= ∀ i,i < 32→f i=g i
theorem Ng {f g:Nat→Int} (h:zK f g):DJ f g=true:=by
 unfold DJ
 exact decide_eq_true (List.map_congr_left fun i hi=>h i (List.mem_range.1 hi))
theorem Cq {f g:Nat→Int}: ∀ n,(∀ i,i < n→f i=g i)→ju f n=ju g n
 | 0,_=>rfl
 | n+1,h=>by rw[ju,ju,Cq n (fun i hi=>h i (by omega)),h n (by omega)]
theorem pJ {K f g:Nat→Int} (h:zK f g):bW K f=bW K g:=by unfold bW;rw[Cq 32 h]
theorem Pd {p q:Nat→Int} {pn n:Int} (h:zK p q):Vf p pn n=Vf q pn n:=by
 have e:bh 33 (bh 1 (fun _=>210) p) (g9 pn)=bh 33 (bh 1 (fun _=>210) q) (g9 pn):=by
  funext i
  simp only[bh]
  by_cases h1:i < 33
  ·rw[if_pos h1,if_pos h1]
   by_cases h2:i < 1
   ·rw[if_pos h2,if_pos h2]
   ·rw[if_neg h2,if_neg h2];exact h _ (by omega)
  ·rw[if_neg h1,if_neg h1]
 unfold Vf ua
 rw[e]
theorem H9 {mk ad f g:Nat→Int} {m:Nat} (h: ∀ i,i < m→f i=g i):jB mk 41 m ad f=jB mk 41 m ad g:=by
 unfold jB wU
 refine kT (fun _ _=>rfl) fun i hi=> ?_
 refine yC (m:=m) (fun _ _=>rfl) h i (by omega)
theorem S1 {a b:Int} (h0:0≤a) (h1:a < 256):aV .xor .u8 (aV .xor .u8 a b) b=a:=by
 show IntKind.u8.wrap ((BitVec.ofInt 8 (IntKind.u8.wrap ((BitVec.ofInt 8 a ^^^ BitVec.ofInt 8 b).toNat:Int)) ^^^ BitVec.ofInt 8 b).toNat:Int)=a
 have e1: ∀ X:BitVec 8,IntKind.u8.wrap (X.toNat:Int)=(X.toNat:Int):=fun X=>yr _ (by omega) (by have:=X.isLt;omega)
 rw[e1,e1,BitVec.ofInt_natCast,BitVec.ofNat_toNat,BitVec.setWidth_eq,BitVec.xor_assoc,BitVec.xor_self,BitVec.xor_zero,BitVec.toNat_ofInt]
 omega
def WX (c:Nat→Int):Nat→Nat→Int
 | 0=>c
 | i+1=>lN (WX c i) 2
def sI (R C mine pk:Nat→Int) (i:Nat):St:={ nC with own:=true,peer:=true,has:=true,root:=R,priv:=mine,aF:=iT mine,rq:=pk,send:=WX C i,se:=1,ns:=(i:Int),skip:=1000,room:=1000 }
def sR (v:SV) (R C priv pk:Nat→Int) (j:Nat):St:={ nC with own:=true,peer:=true,root:=R,priv:=priv,aF:=iT priv,rq:=pk,recv:=WX C j,re:=1,nr:=(j:Int),skip:=1000,room:=1000,store:=v }
def wX (root x:Nat→Int):Nat→Int:=MJ root x
def gG (root x:Nat→Int) (i:Nat):Int:=MJ root x (32+i)
theorem S2 {root pk mine:Nat→Int}:dM (gP root pk 1000 1000) mine=sI (wX root (bW mine pk)) (gG root (bW mine pk)) mine pk 0:=rfl
theorem Vy {R C mine pk seed:Nat→Int} {i:Nat}:dM (sI R C mine pk i) seed=sI R C mine pk i:=rfl
theorem Vz {R C mine pk:Nat→Int} {i:Nat} (hi:i < 1000):jS (sI R C mine pk i)=sI R C mine pk (i+1):=by
 have e:IntKind.u32.wrap ((i:Int)+1)=((i+1:Nat):Int):=by rw[wrap_u32];omega
 show ({ sI R C mine pk i with send:=lN (WX C i) 2,ns:=IntKind.u32.wrap ((i:Int)+1) }:St)=_
 rw[e];rfl
theorem vh {v:SV} {R C priv pk:Nat→Int} {j:Nat}: ∀ k,j+k≤1000→fm (sR v R C priv pk j) k=sR v R C priv pk (j+k)
 | 0,_=>rfl
 | k+1,h=>by
  have e:IntKind.u32.wrap (((j+k:Nat):Int)+1)=((j+k+1:Nat):Int):=by rw[wrap_u32];omega
  rw[fm,vh k (by omega)]
  show ({ sR v R C priv pk (j+k) with recv:=lN (WX C (j+k)) 2,nr:=IntKind.u32.wrap (((j+k:Nat):Int)+1) }:St)=_
  rw[e];rfl
def WY (C pk:Nat→Int) (x:Nat):En:=⟨1,(x:Int),pk,lN (WX C x) 1⟩
theorem YH {v:SV} {R C priv pk:Nat→Int} {j k:Nat} (h:j+k≤1000):Ku (sR v R C priv pk j) k=WY C pk (j+k):=by
 unfold Ku
 rw[vh k h];rfl
structure Inv (C pk:Nat→Int) (op:Nat→Bool) (j n:Nat) (F:Nat→En) (p:Nat→Nat):Prop where
 ents: ∀ i,i < n→F i=WY C pk (p i)
 lt: ∀ i,i < n→p i < j
 mono: ∀ i,i+1 < n→p i < p (i+1)
 cl: ∀ i,i < n→op (p i)=false
 all: ∀ x,x < j→op x=false→ ∃ i,i < n∧p i=x
 low: ∀ x,op x=true→x < j
section
variable {C pk:Nat→Int} {op:Nat→Bool} {j n:Nat} {F:Nat→En} {p:Nat→Nat}
theorem Inv.grow (h:Inv C pk op j n F p): ∀ a b,a < b→b < n→p a < p b
 | a,0,h1,_=>absurd h1 (by omega)
 | a,b+1,h1,h2=>by
  have:=h.mono b h2
  rcases Nat.lt_or_ge a b with h3 | h3
  ·have:=h.grow a b h3 (by omega);omega
  ·obtain rfl:a=b:=by omega
   exact this
theorem Inv.ge (h:Inv C pk op j n F p): ∀ i,i < n→i≤p i
 | 0,_=>by omega
 | i+1,h1=>by have:=h.ge i (by omega);have:=h.mono i h1;omega
theorem Inv.YI (h:Inv C pk op j n F p):n≤j:=by
 rcases n with _ | n
 ·omega
 ·have:=h.ge n (by omega);have:=h.lt n (by omega);omega
theorem Inv.inj (h:Inv C pk op j n F p) {a b:Nat} (ha:a < n) (hb:b < n) (e:p a=p b):a=b:=by
 rcases Nat.lt_trichotomy a b with h1 | h1 | h1
 ·have:=h.grow a b h1 hb;omega
 ·exact h1
 ·have:=h.grow b a h1 ha;omega
theorem uk:tH (fun _=>0)=true:=by unfold tH;exact decide_eq_true rfl
theorem Inv.valid {v:SV} {R priv:Nat→Int} (h:Inv C pk op j n F p) (hj:j≤1000):iP (sR v R C priv pk j) n F=true:=by
 have hn:=h.YI
 have hl:iF (sR v R C priv pk j) n=true:=by
  have e1:(sR v R C priv pk j).skip=1000:=rfl
  have e2:(sR v R C priv pk j).room=1000:=rfl
  simp only[iF,e1,e2,Bool.and_eq_true,decide_eq_true_eq];omega
 have hg: ∀ i,i≤n→nD (sR v R C priv pk j) F i=true:=by
  intro i
  induction i with
  | zero=>intro _;rfl
  | succ i ih=>
   intro hi
   have e1:=h.ents i (by omega)
   have h1:=h.lt i (by omega)
   rw[nD,ih (by omega),Bool.true_and]
   have hp:wQ (sR v R C priv pk j) (F i)=true:=by
    rw[e1];simp only[wQ,WY,sR,Py];simp;omega
   rw[Jl,hp,Bool.true_and]
   rcases i with _ | i
   ·simp
   ·have e2:=h.ents i (by omega)
    have h2:=h.mono i (by omega)
    simp only[Nat.add_sub_cancel,e1,e2,WY,Py]
    simp;omega
 have ha:fJ (sR v R C priv pk j)=true:=by
  have:tH (sR v R C priv pk j).send=true:=uk
  simp only[fJ,this];rfl
 have hu:im (sR v R C priv pk j)=true:=rfl
 have hc:C4 (sR v R C priv pk j)=true:=rfl
 have ho:(sR v R C priv pk j).own=true:=rfl
 rw[iP,hl,ha,hu,hc,hg n (Nat.le_refl n),ho];rfl
end
def S4 (C:Nat→Int) (k:Nat):Nat→Int:=lN (WX C k) 1
def fB (C aF:Nat→Int) (k m:Nat) (g:Nat→Int):Nat→Int:=ua aF 0 (k:Int) m (cx (S4 C k) g) (jB (S4 C k) 41 m (Vf aF 0 (k:Int)) (cx (S4 C k) g))
theorem YJ {R C mine pk g:Nat→Int} {k m:Nat}:O2 (sI R C mine pk k) m g=fB C (iT mine) k m g:=rfl
section
variable {C aF g:Nat→Int} {k m L:Nat}
theorem abf (hm:m≤65536) (hL:L=77+m):Co L (fB C aF k m g)=true:=by
 rw[qg]
 refine ⟨by omega,by omega,abe, ?_⟩
 rw[show L - 77=m by omega]
 exact YG hm
theorem vj:zK (dG (fB C aF k m g)) aF:=fun i hi=>Vw i hi
theorem WZ:ko (fB C aF k m g) 33=0:=YE (by decide) (by decide)
theorem W5 (hk:k≤1000):ko (fB C aF k m g) 37=(k:Int):=YF (by omega) (by omega)
theorem Nh (i:Nat) (hi:i < m):lS (fB C aF k m g) i=cx (S4 C k) g i:=S0 i hi
theorem DX (hL:L=77+m):vb (S4 C k) (dG (fB C aF k m g)) 0 (k:Int) (L - 77) (lS (fB C aF k m g)) (Pb L (fB C aF k m g))=true:=by
 unfold vb lJ
 refine decide_eq_true (List.map_congr_left fun i hi=> ?_)
 have hi:=List.mem_range.1 hi
 rw[Pd vj,show L - 77=m by omega,H9 (fun i hi=>Nh i hi)]
 show fB C aF k m g (45+(L - 77)+i)=_
 rw[show L - 77=m by omega]
 exact Vx i hi
theorem xm (hg:bg g) (i:Nat) (hi:i < m):cx (S4 C k) (lS (fB C aF k m g)) i=g i:=by
 show aV .xor .u8 (lS (fB C aF k m g) i) _=g i
 rw[Nh i hi]
 exact S1 (hg i).1 (hg i).2
end
section
variable {C pk:Nat→Int} {op:Nat→Bool} {j n:Nat} {F:Nat→En} {p:Nat→Nat} {q:Nat→Int} {k:Nat}
theorem S5 (hq:zK pk q) (x:Nat):DK (WY C pk x) q (k:Int)=decide (x=k):=by
 have e:DJ (WY C pk x).aF q=true:=Ng hq
 rw[DK,e,Bool.true_and]
 show ((x:Int)==(k:Int))=decide (x=k)
 by_cases h:x=k
 ·subst h;simp
 ·rw[decide_eq_false h];simp;omega
theorem Inv.none (h:Inv C pk op j n F p) (hq:zK pk q): ∀ b,b≤n→(∀ i,i < b→p i≠k)→ky F q (k:Int) b=Option.none
 | 0,_,_=>rfl
 | b+1,h1,h2=>by
  rw[ky,h.none hq b (by omega) (fun i hi=>h2 i (by omega)),h.ents b (by omega)]
  show (if DK (WY C pk (p b)) q (k:Int)=true then some b else Option.none)=Option.none
  rw[S5 hq,decide_eq_false (h2 b (by omega))];rfl
theorem Inv.some (h:Inv C pk op j n F p) (hq:zK pk q) {i:Nat} (hi:i < n) (hp:p i=k):ky F q (k:Int) n=Option.some i:=by
 refine va (j:=i+1) ?_ n (by omega)
 rw[ky,h.none hq i (by omega) (fun a ha e=>by have:=h.inj (by omega) hi (e.trans hp.symm);omega),h.ents i hi]
 show (if DK (WY C pk (p i)) q (k:Int)=true then Option.some i else Option.none)=Option.some i
 rw[S5 hq,hp,decide_eq_true rfl];rfl
theorem Inv.del (h:Inv C pk op j n F p) {i:Nat} (hi:i < n):Inv C pk (upd op (p i) true) j (n - 1) (wV F i) (fun a=>if a < i then p a else p (a+1)):=by
 refine ⟨fun a ha=> ?_,fun a ha=> ?_,fun a ha=> ?_,fun a ha=> ?_,fun x hx ho=> ?_,fun x hx=> ?_⟩
 ·unfold wV
  try dsimp only
  split
  ·exact h.ents a (by omega)
  ·exact h.ents (a+1) (by omega)
 ·try dsimp only
  split
  ·exact h.lt a (by omega)
  ·exact h.lt (a+1) (by omega)
 ·try dsimp only
  split<;>split
  ·exact h.mono a (by omega)
  ·exact h.grow a (a+1+1) (by omega) (by omega)
  ·omega
  ·exact h.mono (a+1) (by omega)
 ·have key: ∀ b,b < n→b≠i→upd op (p i) true (p b)=false:=fun b hb hne=>by
   rw[upd,if_neg (fun e=>hne (h.inj hb hi e))];exact h.cl b hb
  try dsimp only
  split
  ·exact key a (by omega) (by omega)
  ·exact key (a+1) (by omega) (by omega)
 ·by_cases Rs:x=p i
  ·subst Rs;rw[upd,if_pos rfl]at ho;cases ho
  ·rw[upd,if_neg Rs]at ho
   obtain ⟨a,ha,rfl⟩:=h.all x hx ho
   rcases Nat.lt_trichotomy a i with h1 | h1 | h1
   ·exact ⟨a,by omega,if_pos h1⟩
   ·subst h1;exact absurd rfl Rs
   ·exact ⟨a - 1,by omega,by rw[if_neg (by omega),show a - 1+1=a by omega]⟩
 ·by_cases Rs:x=p i
  ·subst Rs;exact h.lt i hi
  ·rw[upd,if_neg Rs]at hx;exact h.low x hx
theorem Inv.skip (h:Inv C pk op j n F p) {v:SV} {R priv:Nat→Int} (hk:j≤k) (hk2:k < 1000) (ho:op k=false):
  Inv C pk (upd op k true) (k+1) (n+(k - j)) (fY n F (sR v R C priv pk j)) (fun a=>if a < n then p a else j+(a - n)):=by
 have RX: ∀ x,j≤x→op x=false:=fun x hx=>by
  rcases hb:op x with _ | _
  ·rfl
  ·have:=h.low x hb;omega
 refine ⟨fun a ha=> ?_,fun a ha=> ?_,fun a ha=> ?_,fun a ha=> ?_,fun x hx ho=> ?_,fun x hx=> ?_⟩
 ·unfold fY
  try dsimp only
  split
  ·exact h.ents a (by omega)
  ·exact YH (by omega)
 ·try dsimp only
  split
  ·have:=h.lt a (by omega);omega
  ·omega
 ·try dsimp only
  split<;>split
  ·exact h.mono a (by omega)
  ·have:=h.lt a (by omega);omega
  ·omega
  ·omega
 ·try dsimp only
  split
  ·have:=h.lt a (by omega)
   rw[upd,if_neg (by omega)];exact h.cl a (by omega)
  ·rw[upd,if_neg (by omega)];exact RX _ (by omega)
 ·by_cases hxk:x=k
  ·subst hxk;rw[upd,if_pos rfl]at ho;cases ho
  ·rw[upd,if_neg hxk]at ho
   rcases Nat.lt_or_ge x j with h1 | h1
   ·obtain ⟨a,ha,e⟩:=h.all x h1 ho
    exact ⟨a,by omega,by rw[if_pos ha];exact e⟩
   ·exact ⟨n+(x - j),by omega,by rw[if_neg (by omega)];omega⟩
 ·by_cases hxk:x=k
  ·omega
  ·rw[upd,if_neg hxk]at hx;have:=h.low x hx;omega
end
section
variable {C pk aF g R priv:Nat→Int} {op:Nat→Bool} {j n k m L:Nat} {F:Nat→En} {p:Nat→Nat} {v:SV}
theorem S6 {q:Nat→Int} (h:zK q pk):preB (sR v R C priv pk j) q=true:=by
 rw[preB,show decide (0 < (sR v R C priv pk j).re)=true from rfl,Bool.true_and]
 exact Ng h
theorem zK.symm {f g:Nat→Int} (h:zK f g):zK g f:=fun i hi=>(h i hi).symm
theorem zK.trans {f g e:Nat→Int} (h:zK f g) (h':zK g e):zK f e:=fun i hi=>(h i hi).trans (h' i hi)
theorem um {s:St} (hv:iP s n F=true) (hm:m≤65536) (hL:L=77+m) (hk:k < 1000):kQ s n F L (fB C aF k m g)=match ky F (dG (fB C aF k m g)) (k:Int) n with
  | some i=>DT (L - 77) i F (dG (fB C aF k m g)) (lS (fB C aF k m g)) (Pb L (fB C aF k m g)) 0 (k:Int)
  | none=>lK s n (L - 77) (dG (fB C aF k m g)) (lS (fB C aF k m g)) (Pb L (fB C aF k m g)) 0 (k:Int):=by
 unfold kQ
 rw[hv,abf hm hL,WZ,W5 (by omega),if_neg (by decide),if_neg (by decide),if_neg (by omega)]
 cases ky F (dG (fB C aF k m g)) (k:Int) n<;>rfl
theorem xn {s:St} (hk:k < 1000):mX s n F L (fB C aF k m g)=match ky F (dG (fB C aF k m g)) (k:Int) n with
  | some i=>DU n (L - 77) i s F (lS (fB C aF k m g))
  | none=>lQ s n (L - 77) F (dG (fB C aF k m g)) (lS (fB C aF k m g)) 0 (k:Int):=by
 unfold mX
 rw[WZ,W5 (by omega)]
 cases ky F (dG (fB C aF k m g)) (k:Int) n<;>rfl
theorem Pe (h:Inv C pk op j n F p) (hj:j≤1000) (hq:zK pk aF) (hm:m≤65536) (hL:L=77+m) (hk:op k=true):
  kz (sR v R C priv pk j) n F L (fB C aF k m g)=⟨8,sR v R C priv pk j,0,0,n,0,F,fun _=>0⟩:=by
 have ZS:=h.low k hk
 have hq2:zK pk (dG (fB C aF k m g)):=hq.trans vj.symm
 have hN:=h.none hq2 (k:=k) n (Nat.le_refl n) (fun i hi e=>by have:=h.cl i hi;rw[e,hk]at this;cases this)
 have hE:kQ (sR v R C priv pk j) n F L (fB C aF k m g)=Option.some 8:=by
  rw[um (h.valid hj) hm hL (by omega),hN]
  show lK _ _ _ _ _ _ _ _=_
  unfold lK
  rw[S6 hq2.symm]
  have:jX (sR v R C priv pk j) n true 0 (k:Int)=Option.some 8:=by
   unfold jX
   have nr:(sR v R C priv pk j).nr=(j:Int):=rfl
   rw[if_pos rfl,nr,if_pos (show (k:Int) < (j:Int) by omega)]
  rw[this]
 unfold kz
 rw[hE];rfl
theorem VA (h:Inv C pk op j n F p) (hj:j≤1000) (hq:zK pk aF) (hm:m≤65536) (hL:L=77+m) (hk:op k=false) (hk2:k < 1000) (hg:bg g):
  ∃ j' n' F' p' G',kz (sR v R C priv pk j) n F L (fB C aF k m g)=⟨0,sR v R C priv pk j',1,(k:Int),n',m,F',G'⟩∧Inv C pk (upd op k true) j' n' F' p'∧j'≤1000∧0 < j'∧ ∀ i,i < m→G' i=g i:=by
 have hq2:zK pk (dG (fB C aF k m g)):=hq.trans vj.symm
 have ZG:L - 77=m:=by omega
 rcases Nat.lt_or_ge k j with ZS | ZS
 ·obtain ⟨i,hi,rfl⟩:=h.all k ZS hk
  have hS:=h.some hq2 hi rfl
  have ek:(F i).key=S4 C (p i):=by rw[h.ents i hi];rfl
  have ee:(F i).ep=1:=by rw[h.ents i hi];rfl
  have en:(F i).n=(p i:Int):=by rw[h.ents i hi];rfl
  have hE:kQ (sR v R C priv pk j) n F L (fB C aF (p i) m g)=Option.none:=by
   rw[um (h.valid hj) hm hL hk2,hS]
   show DT _ _ _ _ _ _ _ _=_
   unfold DT
   rw[ek,DX hL,if_pos rfl]
  refine ⟨j,n - 1,wV F i,_,cx (S4 C (p i)) (lS (fB C aF (p i) m g)), ?_,h.del hi,hj,by omega,fun a ha=>xm hg a ha⟩
  unfold kz
  rw[hE]
  show mX _ _ _ _ _=_
  rw[xn hk2,hS]
  show DU _ _ _ _ _ _=_
  unfold DU
  rw[ek,ee,en,ZG]
 ·have hN:=h.none hq2 (k:=k) n (Nat.le_refl n) (fun i hi e=>by have:=h.lt i hi;omega)
  have hnj:=h.YI
  have ex:((k:Int) - (j:Int)).toNat=k - j:=by omega
  have er:fm (sR v R C priv pk j) (k - j)=sR v R C priv pk k:=by rw[vh _ (by omega),show j+(k - j)=k by omega]
  have Z8:fm (sR v R C priv pk j) (k - j+1)=sR v R C priv pk (k+1):=by rw[vh _ (by omega),show j+(k - j+1)=k+1 by omega]
  have hP:=S6 (v:=v) (R:=R) (C:=C) (priv:=priv) (j:=j) hq2.symm
  have dS:Ci (sR v R C priv pk j) (dG (fB C aF k m g)) 0=sR v R C priv pk j:=by unfold Ci;rw[if_pos hP]
  have dN:Kx (sR v R C priv pk j) n (dG (fB C aF k m g)) 0=n:=by unfold Kx;rw[if_pos hP]
  have dF:O8 (sR v R C priv pk j) n F (dG (fB C aF k m g)) 0=F:=by unfold O8;rw[if_pos hP]
  have nr:(sR v R C priv pk j).nr=(j:Int):=rfl
  have hE:kQ (sR v R C priv pk j) n F L (fB C aF k m g)=Option.none:=by
   rw[um (h.valid hj) hm hL hk2,hN]
   show lK _ _ _ _ _ _ _ _=_
   unfold lK
   rw[hP]
   have:jX (sR v R C priv pk j) n true 0 (k:Int)=Option.none:=by
    unfold jX
    rw[if_pos rfl,nr,if_neg (show ¬ (k:Int) < (j:Int) by omega)]
    unfold oK
    rw[show (sR v R C priv pk j).skip=1000 from rfl,show (sR v R C priv pk j).room=1000 from rfl,if_neg (show ¬ (1000:Int) < if (k:Int) - (j:Int) > 0 then (k:Int) - (j:Int) else 0 by split<;>omega),if_neg (show ¬ (1000:Int) < (n:Int)+0+((k:Int) - (j:Int)) by omega)]
   rw[this]
   simp only[dS,nr,ex,er]
   exact if_pos (DX hL)
  refine ⟨k+1,n+(k - j),fY n F (sR v R C priv pk j),_,cx (S4 C k) (lS (fB C aF k m g)), ?_,h.skip ZS hk2 hk,by omega,by omega,fun a ha=>xm hg a ha⟩
  unfold kz
  rw[hE]
  show mX _ _ _ _ _=_
  rw[xn hk2,hN]
  show lQ _ _ _ _ _ _ _ _=_
  unfold lQ Ab
  rw[dS,dN,dF,nr,ex,er,Z8,ZG];rfl
end
def sB (v:SV) (root priv:Nat→Int):St:={ iH root priv 1000 1000 with store:=v }
theorem S7 {v:SV} {root priv:Nat→Int} {F:Nat→En}:iP (sB v root priv) 0 F=true:=by
 have h1:tH (sB v root priv).send=true:=uk
 have h2:tH (sB v root priv).rq=true:=uk
 have h3:tH (sB v root priv).recv=true:=uk
 simp only[iP,fJ,im,h1,h2,h3];rfl
theorem YK {v:SV} {root priv q X:Nat→Int} (h:bW priv q=X):Ci (sB v root priv) q 0=sR v (wX root X) (gG root X) priv q 0:=by
 subst h
 unfold Ci
 rw[show preB (sB v root priv) q=false from rfl,if_neg (by decide)];rfl
theorem Ni {R C mine pk q X:Nat→Int} {i:Nat} (h:bW mine q=X):(ib (sI R C mine pk i) q).recv=gG R X∧(ib (sI R C mine pk i) q).root=wX R X:=by
 subst h
 exact ⟨rfl,rfl⟩
theorem KJ {R C mine pk:Nat→Int} {i:Nat} {F:Nat→En}:iP (sI R C mine pk i) 0 F=true:=by
 have h3:tH (sI R C mine pk i).recv=true:=uk
 simp only[iP,fJ,im,h3];rfl
section
variable {C aF g R priv root mine X pk:Nat→Int} {k m L:Nat} {F:Nat→En} {v:SV}
theorem Pf {p:Nat→Nat} (hX:bW priv aF=X) (hm:m≤65536) (hL:L=77+m) (hk2:k < 1000) (hg:bg g):
  ∃ F' p' G',kz (sB v root priv) 0 F L (fB (gG root X) aF k m g)=⟨0,sR v (wX root X) (gG root X) priv (dG (fB (gG root X) aF k m g)) (k+1),1,(k:Int),k,m,F',G'⟩∧Inv (gG root X) (dG (fB (gG root X) aF k m g)) (upd (fun _=>false) k true) (k+1) k F' p'∧ ∀ i,i < m→G' i=g i:=by
 have hq:zK (dG (fB (gG root X) aF k m g)) aF:=vj
 have hXq:bW priv (dG (fB (gG root X) aF k m g))=X:=(pJ hq).trans hX
 have h0:Inv (gG root X) (dG (fB (gG root X) aF k m g)) (fun _=>false) 0 0 F p:=⟨fun i hi=>by omega,fun i hi=>by omega,fun i hi=>by omega,fun i hi=>by omega,fun x hx=>by omega,fun x hx=>by cases hx⟩
 have ZG:L - 77=m:=by omega
 have hP:preB (sB v root priv) (dG (fB (gG root X) aF k m g))=false:=rfl
 have dS:Ci (sB v root priv) (dG (fB (gG root X) aF k m g)) 0=sR v (wX root X) (gG root X) priv (dG (fB (gG root X) aF k m g)) 0:=by
  exact YK hXq
 have dN:Kx (sB v root priv) 0 (dG (fB (gG root X) aF k m g)) 0=0:=by unfold Kx;rw[hP];rfl
 have dF:O8 (sB v root priv) 0 F (dG (fB (gG root X) aF k m g)) 0=fY 0 F (sB v root priv):=by unfold O8;rw[hP];rfl
 have nr:(sR v (wX root X) (gG root X) priv (dG (fB (gG root X) aF k m g)) 0).nr=((0:Nat):Int):=rfl
 have ex:((k:Int) - ((0:Nat):Int)).toNat=k:=by omega
 have er:fm (sR v (wX root X) (gG root X) priv (dG (fB (gG root X) aF k m g)) 0) k=sR v (wX root X) (gG root X) priv (dG (fB (gG root X) aF k m g)) k:=by rw[vh _ (by omega),Nat.zero_add]
 have Z8:fm (sR v (wX root X) (gG root X) priv (dG (fB (gG root X) aF k m g)) 0) (k+1)=sR v (wX root X) (gG root X) priv (dG (fB (gG root X) aF k m g)) (k+1):=by rw[vh _ (by omega),Nat.zero_add]
 have hE:kQ (sB v root priv) 0 F L (fB (gG root X) aF k m g)=Option.none:=by
  rw[um S7 hm hL hk2]
  show lK _ _ _ _ _ _ _ _=_
  unfold lK
  rw[hP]
  have:jX (sB v root priv) 0 false 0 (k:Int)=Option.none:=by
   unfold jX
   rw[if_neg (by decide),show (sB v root priv).own=true from rfl,if_neg (show ¬ (true=false) by decide),show (sB v root priv).re=0 from rfl,if_neg (show ¬ (0:Int)=4294967295 by decide)]
   show oK (sB v root priv) 0 0 (k:Int)=_
   unfold oK
   rw[show (sB v root priv).skip=1000 from rfl,show (sB v root priv).room=1000 from rfl,if_neg (show ¬ (1000:Int) < if (k:Int) > 0 then (k:Int) else 0 by split<;>omega),if_neg (show ¬ (1000:Int) < ((0:Nat):Int)+0+(k:Int) by omega)]
  rw[this]
  simp only[dS,nr,ex,er]
  exact if_pos (DX hL)
 have hI:=h0.skip (v:=v) (R:=wX root X) (priv:=priv) (k:=k) (by omega) hk2 rfl
 rw[show 0+(k - 0)=k by omega]at hI
 refine ⟨_,_,cx (S4 (gG root X) k) (lS (fB (gG root X) aF k m g)), ?_,Inv.mk (F:=fY 0 (fY 0 F (sB v root priv)) (sR v (wX root X) (gG root X) priv (dG (fB (gG root X) aF k m g)) 0)) (fun i hi=> ?_) hI.lt hI.mono hI.cl hI.all hI.low,fun a ha=>xm hg a ha⟩
 ·unfold kz
  rw[hE]
  show mX _ _ _ _ _=_
  rw[xn hk2]
  show lQ _ _ _ _ _ _ _ _=_
  unfold lQ Ab
  rw[dS,dN,dF,nr,ex,er,Z8,ZG,Nat.zero_add];rfl
 ·have:=hI.ents i hi
  rw[← this]
  unfold fY
  rw[if_neg (by omega),if_neg (by omega)]
theorem YL {n:Nat}:n≤65536→gN (sB v root priv) 0 F n=some 2:=fun h=>by
 unfold gN
 rw[S7,if_neg (by decide),if_neg (by omega)]
 exact if_pos rfl
theorem YM {i:Nat} (hi:i≤1000) (hm:m≤65536):gN (sI R C mine pk i) 0 F m=none:=by
 unfold gN
 rw[KJ,if_neg (by decide),if_neg (by omega),show (sI R C mine pk i).peer=true from rfl,if_neg (show ¬ (true=false) by decide),if_neg]
 rintro (⟨_,h⟩ | ⟨h,_⟩)
 ·have:(sI R C mine pk i).ns=(i:Int):=rfl
  omega
 ·cases h
theorem H' {s:St} {n:Nat} (hv:iP s n F=true) (hm:65536 < m):gN s n F m=some 1:=by
 unfold gN
 rw[hv,if_neg (by decide),if_pos hm]
theorem S8 {n:Nat} (hn:n=0):iP (gP root pk 1000 1000) n F=true:=by
 subst hn
 have h1:tH (gP root pk 1000 1000).send=true:=uk
 have h2:tH (gP root pk 1000 1000).priv=true:=uk
 have h4:tH (gP root pk 1000 1000).aF=true:=uk
 have h3:tH (gP root pk 1000 1000).recv=true:=uk
 simp only[iP,fJ,im,h1,h2,h3,h4];rfl
theorem YN (hm:m≤65536):gN (gP root pk 1000 1000) 0 F m=none:=by
 unfold gN
 rw[S8 rfl,if_neg (by decide),if_neg (by omega),show (gP root pk 1000 1000).peer=true from rfl,if_neg (show ¬ (true=false) by decide),if_neg]
 rintro (⟨h,_⟩ | ⟨_,h⟩)
 ·cases h
 ·exact absurd (show (0:Int)=4294967295 from h) (by decide)
theorem YO {op:Nat→Bool} {j n:Nat} {p:Nat→Nat} (h:Inv C pk op j n F p) (hj:j≤1000) (hm:m≤65536):gN (sR v R C priv pk j) n F m=none:=by
 unfold gN
 rw[h.valid hj,if_neg (by decide),if_neg (by omega),show (sR v R C priv pk j).peer=true from rfl,if_neg (show ¬ (true=false) by decide),if_neg]
 rintro (⟨h,_⟩ | ⟨_,h⟩)
 ·cases h
 ·exact absurd (show (0:Int)=4294967295 from h) (by decide)
theorem S9 {Y:Nat→Int} {i:Nat} (hX:bW mine aF=X) (hm:m≤65536) (hL:L=77+m) (hg:bg g):
  ∃ x F' G',kz (sI R C mine pk i) 0 F L (fB (gG R X) aF 0 m g)=⟨0,x,1,0,0,m,F',G'⟩∧x.root=wX R X∧x.has=false∧fy x=fy x∧ ∀ i,i < m→G' i=g i:=by
 have hq:zK (dG (fB (gG R X) aF 0 m g)) aF:=vj
 have hXq:bW mine (dG (fB (gG R X) aF 0 m g))=X:=(pJ hq).trans hX
 have ZG:L - 77=m:=by omega
 have hP:preB (sI R C mine pk i) (dG (fB (gG R X) aF 0 m g))=false:=rfl
 have dS:Ci (sI R C mine pk i) (dG (fB (gG R X) aF 0 m g)) 0=ib (sI R C mine pk i) (dG (fB (gG R X) aF 0 m g)):=by
  unfold Ci
  rw[hP];rfl
 have rr:(ib (sI R C mine pk i) (dG (fB (gG R X) aF 0 m g))).recv=gG R X:=(Ni hXq).1
 have rt:(ib (sI R C mine pk i) (dG (fB (gG R X) aF 0 m g))).root=wX R X:=(Ni hXq).2
 have nr:(ib (sI R C mine pk i) (dG (fB (gG R X) aF 0 m g))).nr=0:=rfl
 have dN:Kx (sI R C mine pk i) 0 (dG (fB (gG R X) aF 0 m g)) 0=0:=by unfold Kx;rw[hP];rfl
 have ex:(((0:Nat):Int) - 0).toNat=0:=rfl
 have hE:kQ (sI R C mine pk i) 0 F L (fB (gG R X) aF 0 m g)=Option.none:=by
  rw[um KJ hm hL (by decide)]
  show lK _ _ _ _ _ _ _ _=_
  unfold lK
  rw[hP]
  have:jX (sI R C mine pk i) 0 false 0 ((0:Nat):Int)=Option.none:=by
   unfold jX
   rw[if_neg (by decide),show (sI R C mine pk i).own=true from rfl,if_neg (show ¬ (true=false) by decide),show (sI R C mine pk i).re=0 from rfl,if_neg (show ¬ (0:Int)=4294967295 by decide)]
   rfl
  rw[this]
  simp only[dS,nr,ex]
  show (if vb (lN (ib (sI R C mine pk i) (dG (fB (gG R X) aF 0 m g))).recv 1) _ _ _ _ _ _=true then Option.none else some 5)=_
  rw[rr]
  have ho:=DX (C:=gG R X) (aF:=aF) (k:=0) (m:=m) (g:=g) hL
  exact if_pos ho
 refine ⟨fm (ib (sI R C mine pk i) (dG (fB (gG R X) aF 0 m g))) 1,fY 0 (fY 0 F (sI R C mine pk i)) (ib (sI R C mine pk i) (dG (fB (gG R X) aF 0 m g))),cx (S4 (gG R X) 0) (lS (fB (gG R X) aF 0 m g)), ?_,rt,rfl,rfl,fun a ha=>xm hg a ha⟩
 unfold kz
 rw[hE]
 show mX _ _ _ _ _=_
 rw[xn (by decide)]
 show lQ _ _ _ _ _ _ _ _=_
 unfold lQ Ab
 rw[dS,dN,nr,ex,ZG]
 show (⟨0,_,_,_,_,_,_,cx (lN (ib (sI R C mine pk i) (dG (fB (gG R X) aF 0 m g))).recv 1) _⟩:HZ)=_
 rw[rr];rfl
end
def Ad (s:St) (n:Nat) (f:Nat→En) (m:Nat) (g seed:Nat→Int):HZ:=match gN s n f m with
 | some i=>if i=0 then ⟨1,nC,0,0,0,0,f,fun _=>0⟩ else ⟨oC i,s,0,0,n,0,f,fun _=>0⟩
 | none=>⟨0,jS (dM s seed),(dM s seed).se,(dM s seed).ns,n,45+m+32,f,O2 (dM s seed) m g⟩
theorem DY {k:Nat} {A:HZ} {w:SV} {v:AV} {out:Nat→Option aI} (h:H2 k { A with x:={ A.x with store:=w } } v out):H2 k A v out:=h
theorem VB {s:St} {v:SV} {n m:Nat} {f:Nat→En}:gN { s with store:=v } n f m=gN s n f m:=by unfold gN;rw[Dl]
theorem Ta {s:St} {v:SV} {seed:Nat→Int}:dM { s with store:=v } seed={ dM s seed with store:=v }:=by unfold dM;dsimp only;split<;>rfl
theorem Tb {k n m:Nat} {s:St} {w:SV} {f:Nat→En} {g seed:Nat→Int} {v:AV} {out:Nat→Option aI} (h:YD k n { s with store:=w } f m g seed v out):H2 k (Ad s n f m g seed) v out:=by
 unfold YD at h
 rw[VB,Ta]at h
 rcases h with ⟨i,hi,⟨h0,rfl,rfl⟩ | ⟨h0,sv,rfl,hK⟩⟩ | ⟨hi,sv,bx,c,cs,rfl,hK,hG,rfl⟩
 ·refine ⟨.inl (.slice none 0 0), .inl (.slice none 0 0), ?_, ?_, ?_⟩<;>simp only[Ad,hi,h0,if_true]
  ·rfl
  ·exact .inl ⟨rfl,rfl,rfl⟩
  ·exact .inl ⟨rfl,rfl,rfl⟩
 ·refine ⟨sv, .inl (.slice none 0 0), ?_, ?_, ?_⟩<;>simp only[Ad,hi,h0,if_false]
  ·rcases hK with ⟨h1,h2,rfl⟩ | ⟨h1,c,cs,h2,hg,rfl⟩
   ·exact .inl ⟨h1,h2,rfl⟩
   ·exact .inr ⟨c,cs,h2,hg,by simp[lk]⟩
  ·rcases hK with ⟨h1,h2,rfl⟩ | ⟨h1,c,cs,h2,hg,rfl⟩
   ·exact .inl ⟨rfl,rfl,rfl⟩
   ·exact .inl ⟨rfl,rfl,by simp[lk]⟩
 ·refine ⟨sv, .inr (.inr (k+1,0,45+m+32,c)), ?_, ?_, ?_⟩<;>simp only[Ad,hi]
  ·rfl
  ·rw[if_pos trivial];exact Kz hK
  ·rw[if_neg (by omega),if_pos trivial];exact .inr ⟨c,cs,rfl,hG,rfl⟩
theorem Tc {d:St} {v:SV} {N m:Nat} {F:Nat→En} {g:Nat→Int} {x:Int}:Ab { d with store:=v } N F m g x={ Ab d N F m g x with x:={ (Ab d N F m g x).x with store:=v } }:=by
 have e1:=pG (s:=d) (v:=v) ((x - d.nr).toNat+1)
 have e2:=pG (s:=d) (v:=v) (x - d.nr).toNat
 show (⟨0,fm { d with store:=v } ((x - d.nr).toNat+1),d.re,x,N+(x - d.nr).toNat,m,fY N F { d with store:=v },cx (lN (fm { d with store:=v } (x - d.nr).toNat).recv 1) g⟩:HZ)=⟨0,{ fm d ((x - d.nr).toNat+1) with store:=v },d.re,x,N+(x - d.nr).toNat,m,fY N F d,cx (lN (fm d (x - d.nr).toNat).recv 1) g⟩
 rw[e1,e2,DR]
theorem VD {s:St} {w:SV} {n L:Nat} {f:Nat→En} {g:Nat→Int}:kQ { s with store:=w } n f L g=kQ s n f L g:=by
 unfold kQ
 rw[Dl]
 simp only[DS]
theorem VE {k n L:Nat} {s:St} {w:SV} {f:Nat→En} {g:Nat→Int} {v:AV} {out:Nat→Option aI} (h:H2 k (kz { s with store:=w } n f L g) v out):H2 k (kz s n f L g) v out:=by
 unfold kz at h ⊢
 rw[VD]at h
 split at h
 ·split at h
  ·rename_i h0;rw[if_pos h0];exact h
  ·rename_i i hE h0;rw[if_neg h0];exact DY (A:=⟨oC i,s,0,0,n,0,f,fun _=>0⟩) (w:=w) h
 ·unfold mX at h ⊢
  split at h
  ·exact DY (A:=DU n _ _ s f _) (w:=w) h
  ·unfold lQ at h ⊢
   rw[KF,SX,show Kx { s with store:=w } n (dG g) (ko g 33)=Kx s n (dG g) (ko g 33) from rfl,Tc]at h
   exact DY h
theorem Pg {s:AS} {nm t u n m:Nat} {vp:AV} {x:St} {f:Nat→En} {g seed:Nat→Int} {ra rb:Bool} {cs ds:List SV} (hb:s.box t=some ⟨ra,cs⟩) (hp:cs.all SV.plain=true) (hi:aO t x.store n f cs) (hs:fy x) (hf: ∀ i,ku (f i)) (hn:n*72≤140737488355328)
  (hb':s.box u=some ⟨rb,ds⟩) (hv:fC u vp m g ds) (hq:ds.all SV.plain=true) (hg:bg g) (TY:bg seed) {dst:Option Nat} {K:AS→Prop} (hk:YA nm (Ad x n f m g seed) dst K s):
  bw Tryz.prog nm 6 (some [Ag (aU x),vp,Ag (ah .u8 32 seed)]) dst K s:=by
 obtain ⟨v0,g0,e0⟩:=hi.name (k:=0)
 obtain ⟨w0,g1,e3⟩:=sS hv 1
 refine Cm (A:=Ad x n f m g seed) (qM (s:={ x with store:=v0 }) g0 hp (hs.ws v0) hf hn g1 hq hg TY) (fun v out h=>Tb h) (two t u) (ik hb hp hb' hq) ?_ hk
 have e1:AV.ren (two t u) (Ag (ah .u8 32 seed))=Ag (ah .u8 32 seed):=AV.bj (by simpa[AV.plain,CV.plain] using az) _
 have e2:SV.ren (two t u) v0=x.store:=e0 _ rfl
 simp only[List.map_cons,List.map_nil,dW,e1,e2,e3 (two t u) rfl]
theorem Cr {s:AS} {nm t u n L o c:Nat} {x:St} {f:Nat→En} {g:Nat→Int} {ra rb:Bool} {cs ds:List SV} (hb:s.box t=some ⟨ra,cs⟩) (hp:cs.all SV.plain=true) (hi:aO t x.store n f cs) (hs:fy x) (hf: ∀ i,ku (f i)) (hn:n*72≤140737488355328)
  (hb':s.box u=some ⟨rb,ds⟩) (hv:br ds o L g) (hq:ds.all SV.plain=true) (hc:L≤c) (hL:L < 140737488355328) (hg:bg g) {dst:Option Nat} {K:AS→Prop} (hk:YA nm (kz x n f L g) dst K s):
  bw Tryz.prog nm 8 (some [Ag (aU x),Sl u o L c]) dst K s:=by
 obtain ⟨v0,g0,e0⟩:=hi.name (k:=0)
 refine Cm (A:=kz x n f L g) (Ac (s:={ x with store:=v0 }) (o:=o) (c:=c) g0 hp (hs.ws v0) hf hn hv hq hc hL hg) (fun v out h=>VE h) (two t u) (ik hb hp hb' hq) ?_ hk
 have e2:SV.ren (two t u) v0=x.store:=e0 _ rfl
 simp only[List.map_cons,List.map_nil,dW,e2];rfl
theorem Ct (role skip room:Int) (root key:Nat→Int) (hr:bg root) (hk:bg key):cO Tryz.prog 4 [I .i64 role,Ag (ah .u8 32 root),Ag (ah .u8 32 key),I .i64 skip,I .i64 room] (Ag (aU (gw role root key skip room))):=by
 refine yy Tryz.func4 rfl (by kernel_rfl) (by simp[Tryz.ntmps4]) rfl (oY (by unfold gw;split<;>(try split)<;>(try split)<;>rfl)) ?_
 have i00:((0:Int)==0)=true:=rfl
 have i11:((1:Int)==1)=true:=rfl
 have i10:((1:Int)==0)=false:=rfl
 by_cases a1:skip < 0
 ·have e:gw role root key skip room=nC:=by unfold gw;rw[if_pos (by omega)]
  rw[e]
  simp only[Tryz.results4,a1,decide_true,ak,vL,seval, -List.reduceReplicate]
  try rfl
 by_cases a2:1000 < skip
 ·have e:gw role root key skip room=nC:=by unfold gw;rw[if_pos (by omega)]
  rw[e]
  simp only[Tryz.results4,a1,a2,decide_true,decide_false,bY,ak,vL,seval, -List.reduceReplicate]
  try rfl
 by_cases a3:room < 0
 ·have e:gw role root key skip room=nC:=by unfold gw;rw[if_pos (by omega)]
  rw[e]
  simp only[Tryz.results4,a1,a2,a3,decide_true,decide_false,bY,ak,vL,seval, -List.reduceReplicate]
  try rfl
 by_cases a4:1000 < room
 ·have e:gw role root key skip room=nC:=by unfold gw;rw[if_pos (by omega)]
  rw[e]
  simp only[Tryz.results4,a1,a2,a3,a4,decide_true,decide_false,bY,ak,vL,seval, -List.reduceReplicate]
  try rfl
 by_cases a5:role=0
 ·have e:gw role root key skip room=gP root key skip room:=by unfold gw;rw[if_neg (by omega),if_pos a5]
  rw[e]
  simp only[Tryz.results4,a1,a2,a3,a4,a5,i00,decide_true,decide_false,bY,ak,vL,seval, -List.reduceReplicate]
  refine .inr ⟨Tryz.mixed,Sc,by kernel_rfl, ?_⟩
  simp only[Sc,ak,vL,seval, -List.reduceReplicate]
  rfl
 by_cases a6:role=1
 ·have e:gw role root key skip room=iH root key skip room:=by unfold gw;rw[if_neg (by omega),if_neg a5,if_pos a6]
  rw[e]
  simp only[Tryz.results4,a1,a2,a3,a4,a5,a6,i10,i11,decide_true,decide_false,bY,ak,vL,seval, -List.reduceReplicate]
  refine .inr ⟨Tryz.mixed,Sd,by kernel_rfl, ?_⟩
  simp only[Sd,ak,vL,seval, -List.reduceReplicate]
  have call: ∀ {s:AS} {nm:Nat} {dst:Option Nat} {K:AS→Prop},K (s.put dst (some (Ag (ah .u8 32 (iT key)))))→aB Tryz.prog nm 10 (some [Ag (ah .u8 32 key)]) dst K s:=fun hk'=>(tY key hk).aB hk'
  repeat' apply And.intro
  all_goals (refine call ?_;simp only[ak,vL,seval, -List.reduceReplicate];try (repeat' apply And.intro))
  all_goals rfl
 ·have e:gw role root key skip room=nC:=by unfold gw;rw[if_neg (by omega),if_neg a5,if_neg a6]
  have b5:(role==0)=false:=by simpa using a5
  have b6:(role==1)=false:=by simpa using a6
  rw[e]
  simp only[Tryz.results4,a1,a2,a3,a4,b5,b6,decide_true,decide_false,bY,ak,vL,seval, -List.reduceReplicate]
  try rfl
end Go.Proofs.YtbipdofobgabhaaGreatDoor
