/-
  What an append and a compaction leave, cut off or not: the log as it was, or with the new record at its end.
-/
import Derived.Test.YtkaamnnjeandlaaDoorVcgK4
import Derived.Test.YtkaamnnjeandlaaDoorVcgWZ
import Derived.Test.YtkaamnnjeandlaaDoorVcgWM
import Derived.Test.YtkaamnnjeandlaaDoorVcgWV
set_option linter.unusedSimpArgs false
set_option linter.unusedVariables false
set_option linter.unusedSectionVars false
set_option maxHeartbeats 8000000
set_option maxRecDepth 20000
namespace Go.Proofs.YtkaamnnjeandlaaDoor
open Go.bM
variable [aV]
theorem Aj {f g:Nat→Int} {e:Nat}: ∀ (n:Nat) {s:Nat},e - s≤n→s < e→okB f s e=true→ET f g s (ay f (aC f e s))→lL g e (aC f e s)=true→okB g s e=true∧aC g e s=aC g e (ay f (aC f e s))
 | 0,s,hn,hs,_,_,_=>by omega
 | n+1,s,hn,hs,ho,ha,hg'=>by
  have hlt:=cW (f:=f) (p:=s)
  obtain ⟨_,_,_,k4,_,_⟩:=kY hs ho
  have hok:okB g s e=true:=(ha.ok (Nat.le_refl _) k4).trans ho
  refine ⟨hok, ?_⟩
  have en:ay g s=ay f s:=ha.next (Nat.le_refl _) (by omega)
  cases hg:lL f e s
  ·rw[c8 hg]at hg' ⊢
   rw[jF hg',en]
  ·obtain ⟨h1,h2,h3⟩:=oY hg
   rw[jF hg]at ha hg' k4 ⊢
   obtain ⟨_,j2,j3,j4,_,_⟩:=kY h1 h2
   have Wz:=cW (f:=f) (p:=ay f s)
   have e1:okB g (ay f s) e=true:=(ha.ok (by omega) j4).trans h2
   have e2:=iP (ha.sec (a:=ay f s) (by omega) (by omega))
   have e3:=iP (ha.sec (a:=s) (by omega) (by omega))
   have gu:lL g e s=true:=GN (by rw[en];exact h1) (by rw[en];exact e1) (by rw[en,e2,e3];exact h3)
   rw[jF gu,en]
   exact (Aj n (s:=ay f s) (by omega) h1 h2 (ha.sub (by omega) (Nat.le_refl _)) hg').2
def Out (f g:Nat→Int) (lo hi:Nat):Prop:= ∀ b, ¬ (lo≤b∧b < hi)→ ∀ j,j < 64→g (64*b+j)=f (64*b+j)
section
variable {f g:Nat→Int} {r st p n n0 nx kn cut T:Nat} {q q0 at_ ct:Int} {pf BJ:Nat→Int} {kb:Nat→Bool}
theorem Out.UB {lo hi:Nat} (h:Out f g lo hi) {lo' hi':Nat} (hd:hi'≤lo∨hi≤lo'):ET f g lo' hi':=fun i h1 h2=>by
 have:=h (i / 64) (by omega) (i%64) (by omega)
 rwa [show 64*(i / 64)+i%64=i by omega]at this
theorem Out.mono {lo hi lo' hi':Nat} (h:Out f g lo hi) (h1:lo'≤lo) (h2:hi≤hi'):Out f g lo' hi':=fun b hb=>h b (by omega)
theorem Jf (hc:cut≤64) (hT:T≤aO n) {a:Nat} (h63:f (64*a+63)=0) (h0:f (64*a)=0):
  (Out f (gN kn kb cut f (eX a n q pf) T) a (a+aM n)∧ml (gN kn kb cut f (eX a n q pf) T) a∧ ¬ (T=aO n∧64≤cut))∨
  (T=aO n∧64≤cut∧ ∀ b j,j < 64→gN kn kb cut f (eX a n q pf) T (64*b+j)=iY f (eX a n q pf) (64*b+j)):=by
 by_cases hw:T=aO n∧64≤cut
 ·right
  obtain ⟨rfl,h2⟩:=hw
  refine ⟨rfl,h2,fun b j hj=> ?_⟩
  rw[xD hc hj,if_neg (by omega)]
 ·left
  refine ⟨fun b hb j hj=> ?_, ?_,hw⟩
  ·rw[fH]at hb
   rcases Nat.lt_or_ge T (aO n) with h | h
   ·exact Je hc h hj (by omega)
   ·obtain rfl:T=aO n:=by omega
    rw[xD hc hj,ng hj]
    (repeat' split)<;>first | rfl | omega
  ·rcases Nat.lt_or_ge T (aO n) with h | h
   ·left
    have:=Je (f:=f) (kn:=kn) (kb:=kb) (q:=q) (pf:=pf) (a:=a) (b:=a) (j:=0) hc h (by decide) (by omega)
    rw[Nat.add_zero]at this
    rw[this,h0];decide
   ·obtain rfl:T=aO n:=by omega
    right
    have:=xD (f:=f) (kn:=kn) (kb:=kb) (q:=q) (pf:=pf) (a:=a) (b:=a) (j:=63) (n:=n) hc (by decide)
    rw[if_pos ⟨rfl,by omega⟩]at this
    rw[this,h63];decide
theorem Lg.UD (h:Lg f r st p q0 n0 BJ) (iw:Clean f r st (ay f p)) {a:Nat} (ha:a=ay f p∧a+aM n≤st+r∨a=r - st∧aM n≤r) (ho:Out f g a (a+aM n)) (hd:ml g a):Lg g r st p q0 n0 BJ∧ay g p=ay f p:=by
 obtain ⟨h1,h2,h3,h4,h5,h6,h7⟩:=h.facts
 have hp:=h.pos
 have lj:=h.at_
 have hlt:=cW (f:=f) (p:=p)
 have hn1:1≤aM n:=by unfold aM;omega
 have zero: ∀ b,b < 2*r→(b < st∨ay f p≤b)→ ¬ (a≤b∧b < a+aM n)→ml g b:=fun b hb h1 h2=>by
  left
  have:=ho b h2 0 (by decide)
  rw[Nat.add_zero]at this
  have h3:=iw b hb h1 0 (by decide)
  rw[Nat.add_zero]at h3
  rw[this,h3];decide
 rcases ha with ⟨rfl,hr⟩ | ⟨rfl,hr⟩
 ·refine h.keep (ho.UB (.inl (Nat.le_refl _))) (fun _=>hd) (.inl (zero _ (by omega) (by omega) (by omega)))
 ·refine h.keep (ho.UB (by omega)) (fun hh=>zero _ (by omega) (by omega) (by omega)) (.inl hd)
theorem NT {a:Nat} (hg: ∀ b j,j < 64→g (64*b+j)=iY f (eX a n q pf) (64*b+j)):Rec g a q n pf:=
 ⟨fun j hj=>by rw[hg _ j hj];exact BI.com j hj,fun i hi=>by
  have:=hg (a+1+i / 64) (i%64) (by omega)
  rw[show 64*(a+1+i / 64)+i%64=64*(a+1)+i by omega]at this
  rw[this];exact BI.body i hi⟩
theorem NU {a:Nat} (hg: ∀ b j,j < 64→g (64*b+j)=iY f (eX a n q pf) (64*b+j)):Out f g a (a+aM n):=fun b hb j hj=>by
 rw[fH]at hb
 rw[hg b j hj,ng hj,if_neg (by omega),if_neg (by omega)]
theorem Lg.grown (h:Lg f r st p q0 n0 BJ) (iw:Clean f r st (ay f p)) (hr:ay f p+aM n≤st+r) (KV:0≤q0) (hq:q0+1 < 18446744073709551616) (hn:n < 4294967296)
  (hg: ∀ b j,j < 64→g (64*b+j)=iY f (eX (ay f p) n (q0+1) pf) (64*b+j)):Lg g r st (ay f p) (q0+1) n pf:=by
 obtain ⟨h1,h2,h3,h4,h5,h6,h7⟩:=h.facts
 have hp:=h.pos
 have lj:=h.at_
 have hlt:=cW (f:=f) (p:=p)
 have hn1:1≤aM n:=by unfold aM;omega
 have jk:Rec g (ay f p) (q0+1) n pf:=NT hg
 have ho:Out f g (ay f p) (ay f p+aM n):=NU hg
 obtain ⟨e1,e2,e3,e4⟩:=jk.read (by omega) hq hn
 have ha:ET f g st (ay f p):=ho.UB (.inl (Nat.le_refl _))
 have zero: ∀ b,b < 2*r→(b < st∨ay f p≤b)→ ¬ (ay f p≤b∧b < ay f p+aM n)→ml g b:=fun b hb h1 h2=>by
  left
  have:=ho b h2 0 (by decide)
  rw[Nat.add_zero]at this
  have h3:=iw b hb h1 0 (by decide)
  rw[Nat.add_zero]at h3
  rw[this,h3];decide
 have fin:ay g (ay f p) < st+r→ml g (ay g (ay f p)):=fun hh=>by
  rw[e4]at hh ⊢
  exact zero _ (by omega) (by omega) (by omega)
 have en:ay g p=ay f p:=ha.next h2 hlt
 have hok:okB g (ay f p) (st+r)=true:=jk.ok (by omega) hq hn hr
 have nz:lL g (st+r) p=true:=GN (by rw[en];omega) (by rw[en];exact hok) (by rw[en,e1,iP (ha.sec h2 hlt),h.seq])
 obtain ⟨k1,k2⟩:=Aj (g:=g) (st+r - st) (Nat.le_refl _) (by omega) h.ok (by rw[h.last];exact ha) (by rw[h.last];exact nz)
 rw[h.last]at k2
 refine ⟨lj,hp,k1, ?_,e1,e2,e3,fin, .inl (zero _ (by omega) (by omega) (by omega))⟩
 rw[k2]
 exact c8 (BH fun hh=>(fin hh).bad)
theorem Lg.moved (h:Lg f r st p q0 n0 BJ) (iw:Clean f r st (ay f p)) (hr:aM n≤r) (KV:0≤q0) (hq:q0+1 < 18446744073709551616) (hn:n < 4294967296)
  (hg: ∀ b j,j < 64→g (64*b+j)=iY f (eX (r - st) n (q0+1) pf) (64*b+j)):Lg g r (r - st) (r - st) (q0+1) n pf∧ay g (r - st)=r - st+aM n:=by
 obtain ⟨h1,h2,h3,h4,h5,h6,h7⟩:=h.facts
 have hp:=h.pos
 have lj:=h.at_
 have hlt:=cW (f:=f) (p:=p)
 have hn1:1≤aM n:=by unfold aM;omega
 have jk:Rec g (r - st) (q0+1) n pf:=NT hg
 have ho:Out f g (r - st) (r - st+aM n):=NU hg
 obtain ⟨e1,e2,e3,e4⟩:=jk.read (by omega) hq hn
 have zero: ∀ b,b < 2*r→(b < st∨ay f p≤b)→ ¬ (r - st≤b∧b < r - st+aM n)→ml g b:=fun b hb h1 h2=>by
  left
  have:=ho b h2 0 (by decide)
  rw[Nat.add_zero]at this
  have h3:=iw b hb h1 0 (by decide)
  rw[Nat.add_zero]at h3
  rw[this,h3];decide
 have fin:ay g (r - st) < r - st+r→ml g (ay g (r - st)):=fun hh=>by
  rw[e4]at hh ⊢
  exact zero _ (by omega) (by omega) (by omega)
 have hok:okB g (r - st) (r - st+r)=true:=jk.ok (by omega) hq hn (by omega)
 refine ⟨⟨by omega,hp,hok,c8 (BH fun hh=>(fin hh).bad),e1,e2,e3,fin, .inr ?_⟩,e4⟩
 rw[show r - (r - st)=st by omega,e1]
 have:bW (aF g st)=bW (aF f st):=iP fun j hj=>by
  have:=ho st (by omega) j hj
  unfold aF
  rw[Nat.mul_comm];exact this
 omega
end
def Whole (at_ ct:Int) (m:Nat):Prop:=at_≤0∨(m:Int) < at_∨at_=m∧64≤ct
section
variable {f g:Nat→Int} {r st p n n0 nx kn a nn:Nat} {q q0 at_ ct:Int} {pf BJ:Nat→Int} {kb:Nat→Bool}
theorem uF:64≤dO ct↔64≤ct:=by unfold dO;omega
theorem PB (h0:f (64*a)=0) (h63:f (64*a+63)=0):
  (Whole at_ ct (aM n)→ ∀ b j,j < 64→fq kn kb ct f at_ (none,eX a n q pf) (64*b+j)=iY f (eX a n q pf) (64*b+j))∧
  (¬ Whole at_ ct (aM n)→Out f (fq kn kb ct f at_ (none,eX a n q pf)) a (a+aM n)∧ml (fq kn kb ct f at_ (none,eX a n q pf)) a):=by
 unfold fq bk Whole
 simp only[kU,decide_eq_true_eq]
 rw[fH]
 by_cases hs:0 < at_∧at_≤0+((aO n+1:Nat):Int)
 ·rw[if_pos hs]
  rcases Jf (f:=f) (q:=q) (pf:=pf) (kn:=kn) (kb:=kb) (cut:=dO ct) (T:=(at_ - 0 - 1).toNat) (n:=n) (a:=a) uD (by omega) h63 h0 with ⟨h1,h2,h3⟩ | ⟨h1,h2,h3⟩
  ·rw[uF]at h3
   exact ⟨fun hw=>absurd (show (at_ - 0 - 1).toNat=aO n∧64≤ct by omega) h3,fun _=>⟨h1,h2⟩⟩
  ·rw[uF]at h2
   exact ⟨fun _=>h3,fun hw=>absurd (by omega) hw⟩
 ·rw[if_neg hs]
  exact ⟨fun _ _ _ _=>rfl,fun hw=>absurd (by omega) hw⟩
theorem Sj (h0:f (64*a)=0) (h63:f (64*a+63)=0):
  (Whole at_ ct (aM n)→Zw (fun b=>st≤b∧b < st+nn) (iY f (eX a n q pf)) (fq kn kb ct f at_ (none,qQ a n q pf st nn))∨ ∀ b j,j < 64→fq kn kb ct f at_ (none,qQ a n q pf st nn) (64*b+j)=iY f (eX a n q pf) (64*b+j))∧
  (¬ Whole at_ ct (aM n)→Out f (fq kn kb ct f at_ (none,qQ a n q pf st nn)) a (a+aM n)∧ml (fq kn kb ct f at_ (none,qQ a n q pf st nn)) a):=by
 unfold fq bk Whole
 simp only[rF,decide_eq_true_eq]
 rw[fH]
 have hz: ∀ b ∈ List.range' st nn,st≤b∧b < st+nn:=fun b hb=>by
  rw[List.mem_range'_1]at hb;omega
 by_cases hs:0 < at_∧at_≤0+((aO n+1+nn:Nat):Int)
 ·rw[if_pos hs]
  unfold qQ
  rw[rB,kU]
  by_cases ht:(at_ - 0 - 1).toNat < aO n+1
  ·rw[if_pos ht]
   rcases Jf (f:=f) (q:=q) (pf:=pf) (kn:=kn) (kb:=kb) (cut:=dO ct) (T:=(at_ - 0 - 1).toNat) (n:=n) (a:=a) uD (by omega) h63 h0 with ⟨h1,h2,h3⟩ | ⟨h1,h2,h3⟩
   ·rw[uF]at h3
    exact ⟨fun hw=>absurd (show (at_ - 0 - 1).toNat=aO n∧64≤ct by omega) h3,fun _=>⟨h1,h2⟩⟩
   ·rw[uF]at h2
    exact ⟨fun _=> .inr h3,fun hw=>absurd (by omega) hw⟩
  ·rw[if_neg ht]
   exact ⟨fun _=> .inl (NP uD hz),fun hw=>absurd (by omega) hw⟩
 ·rw[if_neg hs]
  unfold qQ
  rw[Bt]
  exact ⟨fun _=> .inl (xA fun x hx=>⟨(qL hx).1,hz _ (qL hx).2⟩),fun hw=>absurd (by omega) hw⟩
theorem Zw.mono {P P':Nat→Prop} (h:Zw P f g) (hp: ∀ a,P a→P' a):Zw P' f g:=fun a=>⟨(h a).1,fun hn=>(h a).2 fun hh=>hn (hp a hh)⟩
theorem Lg.move (h:Lg f r st p q0 n0 BJ) (iw:Clean f r st (ay f p)) (hr:aM n≤r) (KV:0≤q0) (hq:q0+1 < 18446744073709551616) (hn:n < 4294967296) (hg:g=fq kn kb ct f at_ (none,qQ (r - st) n (q0+1) pf st (ay f p - st))):
  (Whole at_ ct (aM n)→Lg g r (r - st) (r - st) (q0+1) n pf∧ay g (r - st)=r - st+aM n)∧(¬ Whole at_ ct (aM n)→Lg g r st p q0 n0 BJ):=by
 obtain ⟨h1,h2,h3,h4,h5,h6,h7⟩:=h.facts
 have hp:=h.pos
 have lj:=h.at_
 have hlt:=cW (f:=f) (p:=p)
 have hz: ∀ j,j < 64→f (64*(r - st)+j)=0:=iw (r - st) (by omega) (by omega)
 obtain ⟨m1,m2⟩:=Sj (f:=f) (a:=r - st) (n:=n) (q:=q0+1) (pf:=pf) (st:=st) (nn:=ay f p - st) (kn:=kn) (kb:=kb) (ct:=ct) (at_:=at_) (by have:=hz 0 (by decide);rwa [Nat.add_zero]at this) (hz 63 (by decide))
 rw[← hg]at m1 m2
 refine ⟨fun hw=> ?_,fun hw=> ?_⟩
 ·rcases m1 hw with m | m
  ·obtain ⟨k1,k2⟩:=h.moved (g:=iY f (eX (r - st) n (q0+1) pf)) iw hr KV hq hn fun b j hj=>rfl
   obtain ⟨k3,k4⟩:=k1.zero (g:=g) (m.mono fun b hb=>by rw[k2];omega)
   exact ⟨k3,k4.trans k2⟩
  ·exact h.moved iw hr KV hq hn m
 ·obtain ⟨k1,k2⟩:=m2 hw
  exact (h.UD iw (.inr ⟨rfl,hr⟩) k1 k2).1
theorem Lg.append (h:Lg f r st p q0 n0 BJ) (iw:Clean f r st (ay f p)) (hr:aM n≤r) (KV:0≤q0) (hq:q0+1 < 18446744073709551616) (hn:n < 4294967296) (hg:g=fq kn kb ct f at_ (aN f (2*r) n pf)):
  (Whole at_ ct (aM n)→ ∃ st' p',Lg g r st' p' (q0+1) n pf)∧(¬ Whole at_ ct (aM n)→Lg g r st p q0 n0 BJ)∧(aN f (2*r) n pf).1=none∧aM n≤dF (aN f (2*r) n pf).2:=by
 obtain ⟨h1,h2,h3,h4,h5,h6,h7⟩:=h.facts
 have hp:=h.pos
 have lj:=h.at_
 have hlt:=cW (f:=f) (p:=p)
 have hR:aN f (2*r) n pf=if st+r < ay f p+aM n then (none,qQ (r - st) n (q0+1) pf st (ay f p - st)) else (none,eX (ay f p) n (q0+1) pf):=by
  unfold aN
  rw[h.half,h.live]
  simp only
  rw[if_neg (fun hh=>hh (h.oZ.2 iw)),h.last,h.seq,if_neg (by omega),if_neg (by omega)]
 rw[hR]at hg ⊢
 split at hg
 ·rename_i hm
  rw[if_pos hm]
  obtain ⟨k1,k2⟩:=h.move iw hr KV hq hn hg
  exact ⟨fun hw=>⟨_,_,(k1 hw).1⟩,k2,rfl,by rw[rF,fH];omega⟩
 ·rename_i hm
  rw[if_neg hm]
  have hfit:ay f p+aM n≤st+r:=by omega
  have hn1:1≤aM n:=by unfold aM;omega
  have hz: ∀ j,j < 64→f (64*ay f p+j)=0:=iw _ (by omega) (by omega)
  obtain ⟨m1,m2⟩:=PB (f:=f) (a:=ay f p) (n:=n) (q:=q0+1) (pf:=pf) (kn:=kn) (kb:=kb) (ct:=ct) (at_:=at_) (by have:=hz 0 (by decide);rwa [Nat.add_zero]at this) (hz 63 (by decide))
  rw[← hg]at m1 m2
  refine ⟨fun hw=>⟨_,_,h.grown iw hfit KV hq hn (m1 hw)⟩,fun hw=> ?_,rfl,by rw[kU,fH];omega⟩
  obtain ⟨k1,k2⟩:=m2 hw
  exact (h.UD iw (.inl ⟨rfl,hfit⟩) k1 k2).1
theorem Lg.bE (h:Lg f r st p q0 n0 BJ) (iw:Clean f r st (ay f p)) (hq:q0+1 < 18446744073709551616):bE f (2*r)=(none,qQ (r - st) n0 (q0+1) (dc f p) st (ay f p - st)):=by
 unfold Go.Proofs.YtkaamnnjeandlaaDoor.bE
 rw[h.half,h.live]
 simp only
 rw[if_neg (fun hh=>hh (h.oZ.2 iw)),h.last,h.seq,h.len,if_neg (by omega)]
theorem Lg.fits (h:Lg f r st p q0 n0 BJ):aM n0≤r:=by
 obtain ⟨h1,h2,h3,h4,h5,h6,h7⟩:=h.facts
 have:=h.at_
 unfold ay at h7
 rw[h.len]at h7
 omega
theorem Lg.UE {XU:Nat→Int} (h:Lg f r st p q0 n0 BJ) (e: ∀ i,i < n0→BJ i=XU i):Lg f r st p q0 n0 XU:=⟨h.at_,h.pos,h.ok,h.last,h.seq,h.len,fun i hi=>(h.NK i hi).trans (e i hi),h.fin,h.WA⟩
theorem Lg.compact (h:Lg f r st p q0 n0 BJ) (iw:Clean f r st (ay f p)) (KV:0≤q0) (hq:q0+1 < 18446744073709551616) (hn:n0 < 4294967296) (hg:g=fq kn kb ct f at_ (Go.Proofs.YtkaamnnjeandlaaDoor.bE f (2*r))):
  (Whole at_ ct (aM n0)→Lg g r (r - st) (r - st) (q0+1) n0 BJ∧ay g (r - st)=r - st+aM n0)∧(¬ Whole at_ ct (aM n0)→Lg g r st p q0 n0 BJ):=by
 rw[h.bE iw hq]at hg
 obtain ⟨k1,k2⟩:=h.move iw h.fits KV hq hn hg
 exact ⟨fun hw=>⟨(k1 hw).1.UE h.NK,(k1 hw).2⟩,k2⟩
theorem Lg.tidy (h:Lg f r st p q0 n0 BJ) (iw:Clean f r st (ay f p)) (hq:q0+1 < 18446744073709551616) (Zu:at_≤0) (hg:g=fq kn kb ct f at_ (Go.Proofs.YtkaamnnjeandlaaDoor.bE f (2*r))):Clean g r (r - st) (r - st+aM n0):=by
 obtain ⟨h1,h2,h3,h4,h5,h6,h7⟩:=h.facts
 have hp:=h.pos
 have lj:=h.at_
 rw[h.bE iw hq]at hg
 unfold fq bk at hg
 rw[if_neg (by rw[decide_eq_true_eq];omega)]at hg
 unfold qQ at hg
 rw[Bt]at hg
 intro b hb ho j hj
 rw[hg]
 refine xB ?_ j hj
 by_cases hin:st≤b∧b < ay f p
 ·left
  rw[List.mem_range'_1];omega
 ·right
  intro j hj
  rw[fH]at ho
  rw[ng hj,if_neg (by omega),if_neg (by omega)]
  exact iw b hb (by omega) j hj
end
theorem PE {n:Nat} {f:Nat→Int} {o o' c c':Nat} {cs ds:List SV} (hc:bu cs o n f) (hd:bu ds o' n f) (hp:cs.all SV.plain=true) (hq:ds.all SV.plain=true) (hn:n < 4611686018427387904):
  bC Tryd.prog 7 [Sl 0 o n c,Sl 1 o' n c'] 2 (lk [(0,⟨false,cs⟩),(1,⟨false,ds⟩)]) (fun v out=>v=B true∧out=fun _=>none):=by
 refine aU Tryd.func7 rfl (by kernel_rfl) (by simp[Tryd.ntmps7]) Tryd.ku (by simp[AV.ok,CV.ok,SV.names]) xX (xY hp hq) ?_
 have nJ: ∀ {M:Nat→Prop},(∀ x ∈ cs,SV.ok M x)=True:=eq_true (ai hp)
 have Kj: ∀ {M:Nat→Prop},(∀ x ∈ ds,SV.ok M x)=True:=eq_true (ai hq)
 simp only[Tryd.results7,bne_self_eq_false,vR,seval]
 refine bY n (fun k=>[(0,Sl 0 o n c),(1,Sl 1 o' n c'),(12,I .i64 n),(13,I .i64 k)])
  (fun k=>[(0,⟨false,cs⟩),(1,⟨false,ds⟩)]) _ ?_ ?_ ?_
 ·simp only[nJ,Kj,vR,seval]
 ·intro j hj
  simp only[vR,seval]
  refine fh (by simp;omega) ?_
  simp only[aE,aJ hj,hc j hj,hd j hj,bne_self_eq_false,bQ j (by omega),vR,seval]
  exact ⟨by kernel_rfl,ai hp,ai hq⟩
 ·simp only[vR,seval]
  refine cy (by simp) ?_
  simp only[vR,seval]
  exact aL rfl ⟨rfl,rfl⟩
theorem PF {a:Option Addr} {o c:Nat} {cs:List SV} (hp:cs.all SV.plain=true):
  bC Tryd.prog 7 [V (.slice a 0 0),Sl 0 o 0 c] 1 (lk [(0,⟨false,cs⟩)]) (fun v out=>v=B true∧out=fun _=>none):=by
 refine aU Tryd.func7 rfl (by kernel_rfl) (by simp[Tryd.ntmps7]) Tryd.ku (by simp[AV.ok,CV.ok,SV.names]) j0 (j5 hp) ?_
 simp only[Tryd.results7,bne_self_eq_false,vR,seval]
 refine bY 0 (fun k=>[(12,I .i64 0),(13,I .i64 k)]) (fun k=>[]) _ ?_ ?_ ?_
 ·simp only[vR,seval]
 ·intro j hj;omega
 ·simp only[vR,seval]
  refine cy (by simp) ?_
  simp only[vR,seval]
  exact aL rfl ⟨rfl,rfl⟩
theorem PG {a:Option Addr} {o c:Nat} {cs:List SV} (hp:cs.all SV.plain=true):
  bC Tryd.prog 7 [Sl 0 o 0 c,V (.slice a 0 0)] 1 (lk [(0,⟨false,cs⟩)]) (fun v out=>v=B true∧out=fun _=>none):=by
 refine aU Tryd.func7 rfl (by kernel_rfl) (by simp[Tryd.ntmps7]) Tryd.ku (by simp[AV.ok,CV.ok,SV.names]) j0 (j5 hp) ?_
 simp only[Tryd.results7,bne_self_eq_false,vR,seval]
 refine bY 0 (fun k=>[(12,I .i64 0),(13,I .i64 k)]) (fun k=>[]) _ ?_ ?_ ?_
 ·simp only[vR,seval]
 ·intro j hj;omega
 ·simp only[vR,seval]
  refine cy (by simp) ?_
  simp only[vR,seval]
  exact aL rfl ⟨rfl,rfl⟩
theorem PH {a a':Option Addr}:bC Tryd.prog 7 [V (.slice a 0 0),V (.slice a' 0 0)] 0 (fun _=>none) (fun v out=>v=B true∧out=fun _=>none):=by
 refine aU Tryd.func7 rfl (by kernel_rfl) (by simp[Tryd.ntmps7]) Tryd.ku (by simp[AV.ok,CV.ok,SV.names]) OE OG ?_
 simp only[Tryd.results7,bne_self_eq_false,vR,seval]
 refine bY 0 (fun k=>[(12,I .i64 0),(13,I .i64 k)]) (fun k=>[]) _ ?_ ?_ ?_
 ·simp only[vR,seval]
 ·intro j hj;omega
 ·simp only[vR,seval]
  refine cy (by simp) ?_
  simp only[vR,seval]
  exact aL rfl ⟨rfl,rfl⟩
theorem Ak {s:AS} {nm:Nat} {v u:AV} {n:Nat} {f:Nat→Int} (hn:n < 4611686018427387904) (h1:iD s.box v n f) (h2:iD s.box u n f) {dst:Option Nat} {K:AS→Prop} (hk:K (s.put dst (some (B true)))):
  aB Tryd.prog nm 7 (some [v,u]) dst K s:=by
 rcases h1 with ⟨⟨a,rfl⟩,rfl⟩ | ⟨t,o,c,Vh,cs,rfl,hb,hp,hc⟩<;>rcases h2 with ⟨⟨a',rfl⟩,h0⟩ | ⟨t',o',c',rw2,ds,rfl,hb',hq,hd⟩
 ·exact PH.iB (fun n=>n) Dj rfl rfl hk
 ·exact (PF hq).iB (fun _=>t') (dU hb' hq) rfl rfl hk
 ·subst h0
  exact (PG hp).iB (fun _=>t) (dU hb hp) rfl rfl hk
 ·exact (PE hc hd hp hq hn).iB (two t t') (lY hb hp hb' hq) rfl rfl hk
def km (bx:Nat→Option aG) (nm n:Nat) (g:Nat→Int) (v:SV):Prop:=(v= .inl (.slice none 0 0)∧n=0)∨ ∃ c cs,v= .inr (.inr (nm,0,n,c))∧n≤c∧bx nm=some ⟨true,cs⟩∧cs.all SV.plain=true∧bu cs 0 n g
theorem km.bytes {bx:Nat→Option aG} {nm n:Nat} {g:Nat→Int} {v:SV} (h:km bx nm n g v):iD bx (Sum.inl (Sum.inl v)) n g:=by
 rcases h with ⟨rfl,h0⟩ | ⟨c,cs,rfl,_,h1,h2,h3⟩
 ·exact .inl ⟨⟨none,rfl⟩,h0⟩
 ·exact .inr ⟨nm,0,c,true,cs,rfl,h1,h2,h3⟩
theorem km.move {bx P3:Nat→Option aG} {nm n:Nat} {g:Nat→Int} {v:SV} (h:km bx nm n g v) (e:P3 nm=bx nm):km P3 nm n g v:=by
 rcases h with ⟨rfl,h0⟩ | ⟨c,cs,rfl,h4,h1,h2,h3⟩
 ·exact .inl ⟨rfl,h0⟩
 ·exact .inr ⟨c,cs,rfl,h4,e.trans h1,h2,h3⟩
def Told (k n:Nat) (g:Nat→Int) (pv:SV) (out:Nat→Option aG):Prop:=(pv= .inl (.slice none 0 0)∧n=0∧out=fun _=>none)∨ ∃ c cs,pv= .inr (.inr (k,0,n,c))∧n≤c∧bu cs 0 n g∧cs.all SV.plain=true∧out=lk [(k,⟨true,cs⟩)]
theorem qM {s:AS} {k n nm:Nat} {g:Nat→Int} {pv:SV} {out:Nat→Option aG} {r:Nat→Nat} (h:Told k n g pv out):
  km (after s r k nm none out) nm n g (SV.ren (dy r k nm) pv)∧ ∀ t,t≠nm→after s r k nm none out t=s.box t:=by
 rcases h with ⟨rfl,h0,rfl⟩ | ⟨c,cs,rfl,h4,h1,h2,rfl⟩
 ·exact ⟨.inl ⟨rfl,h0⟩,fun t _=>rfl⟩
 ·rw[dv h2]
  refine ⟨.inr ⟨c,cs, ?_,h4,aT _ _ _,h2,h1⟩,fun t ht=>aW _ _ _ _ ht⟩
  show Sum.inr (Sum.inr (dy r k nm k,0,n,c))=_
  rw[gl]
def KZ (r:Int) (n:Nat):Nat:=if ES r n=true then 128*r.toNat else 0
theorem form_told {k n:Nat} {r:Int} {pf:Nat→Int} {v:AV} {out:Nat→Option aG} (h:sC k n r pf v out): ∃ pv,v=Sum.inl (Sum.inl pv)∧Told k (KZ r n) (iY (fun _=>0) (eX 0 n 1 pf)) pv out:=by
 rcases h with ⟨h1,rfl,rfl⟩ | ⟨h1,c,tail,rfl,rfl,h2,h3,h4⟩
 ·exact ⟨_,rfl, .inl ⟨rfl,by unfold KZ;rw[if_neg (by rw[h1];decide)],rfl⟩⟩
 ·have e:KZ r n=128*r.toNat:=if_pos h1
  rw[← e]at h2 ⊢
  exact ⟨_,rfl, .inr ⟨c,_,rfl,h2,ik,dz h4,rfl⟩⟩
def Fa (f:Nat→Int) (n:Nat):Int×Int×Int×Int×Nat×(Nat→Int):=
 if kl n=true then match cX f (n / 64 / 2) with
  | none=>(1,0,0,0,0,fun _=>0)
  | some st=>if eZ f (n / 64) st=[] then (0,bW (aF f (aC f (st+n / 64 / 2) st)),((st / (n / 64 / 2):Nat):Int),((ay f (aC f (st+n / 64 / 2) st) - st:Nat):Int),bd (aF f (aC f (st+n / 64 / 2) st)),dc f (aC f (st+n / 64 / 2) st)) else (11,0,0,0,0,fun _=>0)
 else (1,0,0,0,0,fun _=>0)
def SJ (m:Int×Int×Int×Int×Nat×(Nat→Int)) (pv:SV):AV:=ui m.1 m.2.1 m.2.2.1 m.2.2.2.1 pv
theorem GR {k n:Nat} {f:Nat→Int} {v:AV} {out:Nat→Option aG} (h:nf k n f v out): ∃ pv,v=SJ (Fa f n) pv∧Told k (Fa f n).2.2.2.2.1 (Fa f n).2.2.2.2.2 pv out:=by
 rcases h with ⟨h1,rfl,rfl⟩ | ⟨h1,⟨st,h2,h3⟩,rfl,rfl⟩ | ⟨h1,st,c,cs,h2,h3,h4,h5,h6,rfl,rfl⟩
 ·have e:Fa f n=(1,0,0,0,0,fun _=>0):=by
   unfold Fa
   rcases h1 with h1 | ⟨h1,h2⟩
   ·rw[if_neg (by rw[h1];decide)]
   ·rw[if_pos h1,h2]
  rw[e]
  exact ⟨_,rfl, .inl ⟨rfl,rfl,rfl⟩⟩
 ·have e:Fa f n=(11,0,0,0,0,fun _=>0):=by
   unfold Fa
   rw[if_pos h1,h2]
   exact if_neg h3
  rw[e]
  exact ⟨_,rfl, .inl ⟨rfl,rfl,rfl⟩⟩
 ·have e:Fa f n=(0,bW (aF f (aC f (st+n / 64 / 2) st)),((st / (n / 64 / 2):Nat):Int),((ay f (aC f (st+n / 64 / 2) st) - st:Nat):Int),bd (aF f (aC f (st+n / 64 / 2) st)),dc f (aC f (st+n / 64 / 2) st)):=by
   unfold Fa
   rw[if_pos h1,h2]
   exact if_pos h3
  rw[e]
  exact ⟨_,rfl, .inr ⟨c,cs,rfl,h5,h4,h6,rfl⟩⟩
theorem xE {k n:Nat} {code:Int} {g:Nat→Int} {v:AV} {out:Nat→Option aG} (h:gI k code n g v out): ∃ pv,v=Ag [Sum.inl (.int .i64 code),pv]∧Told k n g pv out:=by
 rcases h with ⟨h1,rfl,rfl⟩ | ⟨c,cs,h1,h2,h3,rfl,rfl⟩
 ·exact ⟨_,rfl, .inl ⟨rfl,h1,rfl⟩⟩
 ·exact ⟨_,rfl, .inr ⟨c,cs,rfl,h1,h2,h3,rfl⟩⟩
section
variable {s:AS} {nm F k:Nat} {args l:List AV} {ins:Nat→Option aG} {dst:Option Nat} {K:AS→Prop} {r:Nat→Nat}
theorem KJ {n:Nat} {rg:Int} {pf:Nat→Int} (h:bC Tryd.prog F args k ins (sC k n rg pf)) (hfit:Fits s r ins none) (hl:l=args.map (AV.ren r))
  (hK: ∀ pv bx,km bx nm (KZ rg n) (iY (fun _=>0) (eX 0 n 1 pf)) pv→(∀ t,t≠nm→bx t=s.box t)→K (({ s with box:=bx }:AS).put dst (some (Sum.inl (Sum.inl pv))))):aB Tryd.prog nm F (some l) dst K s:=by
 refine h.aB r none hfit hl ?_
 rintro v out hv _
 obtain ⟨pv,rfl,ht⟩:=form_told hv
 obtain ⟨h1,h2⟩:=qM (s:=s) (nm:=nm) (r:=r) ht
 exact hK _ _ h1 h2
theorem nh {n:Nat} {f:Nat→Int} (h:bC Tryd.prog F args k ins (nf k n f)) (hfit:Fits s r ins none) (hl:l=args.map (AV.ren r))
  (hK: ∀ pv bx,km bx nm (Fa f n).2.2.2.2.1 (Fa f n).2.2.2.2.2 pv→(∀ t,t≠nm→bx t=s.box t)→K (({ s with box:=bx }:AS).put dst (some (SJ (Fa f n) pv)))):aB Tryd.prog nm F (some l) dst K s:=by
 refine h.aB r none hfit hl ?_
 rintro v out hv _
 obtain ⟨pv,rfl,ht⟩:=GR hv
 obtain ⟨h1,h2⟩:=qM (s:=s) (nm:=nm) (r:=r) ht
 exact hK _ _ h1 h2
end
theorem Sk {r:Nat→Nat} {b:Bool} {cs:List SV} (h:cs.all SV.plain=true):aG.ren r ⟨b,cs⟩=⟨b,cs⟩:=by
 show (⟨b,cs.map (SV.ren r)⟩:aG)=_
 rw[az h]
theorem tV {s:AS} {k n nm:Nat} {g:Nat→Int} {pv:SV} {out:Nat→Option aG} {r:Nat→Nat} (h:Told k n g pv out):
  km (ia s r k 1 nm none out) nm n g (SV.ren (aR r k nm) pv)∧ ∀ t,t≠nm→ia s r k 1 nm none out t=s.box t:=by
 refine ⟨?_,fun t ht=>by unfold ia;rw[if_neg (by omega)]⟩
 rcases h with ⟨rfl,h0,rfl⟩ | ⟨c,cs,rfl,h4,h1,h2,rfl⟩
 ·exact .inl ⟨rfl,h0⟩
 ·refine .inr ⟨c,cs, ?_,h4, ?_,h2,h1⟩
  ·show Sum.inr (Sum.inr (aR r k nm k,0,n,c))=_
   unfold aR
   rw[if_neg (by omega),Nat.sub_self]
   rfl
  ·unfold ia
   rw[if_pos (by omega),Nat.sub_self,Nat.add_zero]
   simp only[lk,if_true]
   show some (aG.ren _ ⟨true,cs⟩)=_
   rw[Sk h2]
section
variable {s:AS} {nm F k:Nat} {args l:List AV} {ins:Nat→Option aG} {dst:Option Nat} {K:AS→Prop} {r:Nat→Nat}
theorem tW {n:Nat} {code:Int} {g:Nat→Int} (h:bC Tryd.prog F args k ins (gI k code n g)) (hfit:Fits s r ins none) (hl:l=args.map (AV.ren r))
  (hK: ∀ pv bx,km bx nm n g pv→(∀ t,t≠nm→bx t=s.box t)→K (({ s with box:=bx }:AS).put dst (some (Ag [Sum.inl (.int .i64 code),pv])))):bD Tryd.prog nm F (some l) dst K s:=by
 refine h.wide.aB r none hfit hl ?_
 rintro v out hv
 obtain ⟨pv,rfl,ht⟩:=xE hv
 obtain ⟨h1,h2⟩:=tV (s:=s) (nm:=nm) (r:=r) ht
 exact hK _ _ h1 h2
end
theorem o0 {n:Nat} (hn:n≤4611686018427387904):sM Tryd.prog 5 [I .i64 n] (I .i64 (aO n)):=by
 refine fE Tryd.func5 rfl (by kernel_rfl) (by simp[Tryd.ntmps5]) rfl rfl ?_
 simp only[Tryd.results5,vS,seval]
 have e1:IntKind.i64.wrap ((n:Int)+64)=n+64:=wrap_i64 _ (by omega) (by omega)
 have e2:IntKind.i64.wrap ((n:Int)+64 - 1)=((n+63:Nat):Int):=(wrap_i64 _ (by omega) (by omega)).trans (by omega)
 have e3:(((n+63:Nat):Int)).tdiv 64=((aO n:Nat):Int):=by
  rw[Int.tdiv_eq_ediv_of_nonneg (Int.natCast_nonneg _)]
  unfold aO
  omega
 have e4:IntKind.i64.wrap ((aO n:Nat):Int)=aO n:=wrap_i64 _ (by omega) (by unfold aO;omega)
 rw[e1,e2,e3,e4]
def fI (at_ cut:Int) (m:Int):Bool:=decide (at_≤0)||decide (m < at_)||(decide (at_=m)&&decide (64≤cut))
theorem kZ {at_ cut:Int} {m:Nat}:fI at_ cut m=true↔Whole at_ cut m:=by
 unfold fI Whole
 simp only[Bool.or_eq_true,Bool.and_eq_true,decide_eq_true_eq]
 omega
theorem Jg {kn:Nat} {kb:Nat→Bool} {ks:SV} {kc:List SV} {at_ cut m:Int} (hk:ft 0 ks kn kb kc) (hq:kc.all SV.plain=true):
  bC Tryd.prog 8 [Ag (cL at_ cut ks),I .i64 m] 1 (lk [(0,⟨false,kc⟩)]) (fun v out=>v=B (fI at_ cut m)∧out=fun _=>none):=by
 refine aU Tryd.func8 rfl (by kernel_rfl) (by simp[Tryd.ntmps8]) Tryd.oS (fun v hv=>by
  simp only[cz]at hv
  rcases hv with rfl | rfl
  ·exact EJ hk (by decide)
  ·trivial) j0 (j5 hq) ?_
 have w1:fI at_ cut m=(decide (at_≤0)||decide (m < at_)||(decide (at_=m)&&decide (64≤cut))):=rfl
 by_cases h1:at_≤0
 ·have e:fI at_ cut m=true:=by rw[w1,decide_eq_true h1];rfl
  rw[e]
  simp only[Tryd.results8,cL,h1,decide_true,bJ,seval]
  exact aL rfl ⟨rfl,rfl⟩
 by_cases h2:m < at_
 ·have e:fI at_ cut m=true:=by rw[w1,decide_eq_false h1,decide_eq_true h2];rfl
  rw[e]
  simp only[Tryd.results8,cL,h1,h2,decide_true,decide_false,bJ,seval]
  exact aL rfl ⟨rfl,rfl⟩
 by_cases h3:at_=m
 ·subst h3
  have e:fI at_ cut at_=decide (64≤cut):=by rw[w1,decide_eq_false h1,decide_eq_false h2,decide_eq_true rfl];rfl
  rw[e]
  simp only[Tryd.results8,cL,h1,h2,beq_self_eq_true,decide_true,decide_false,bJ,seval]
  exact aL rfl ⟨rfl,rfl⟩
 ·have e:fI at_ cut m=false:=by rw[w1,decide_eq_false h1,decide_eq_false h2,decide_eq_false h3];rfl
  have b3:(at_==m)=false:=by simpa using h3
  rw[e]
  simp only[Tryd.results8,cL,h1,h2,b3,decide_true,decide_false,bJ,seval]
  exact aL rfl ⟨rfl,rfl⟩
section
variable {f g:Nat→Int} {r st p n kn:Nat} {q at_ ct:Int} {pf:Nat→Int} {kb:Nat→Bool}
theorem NV (h1:8≤r) (h2:r≤4096):kl (128*r)=true:=by
 unfold kl
 rw[decide_eq_true_eq]
 omega
theorem Sm:128*r / 64 / 2=r:=by omega
theorem jM:128*r / 64=2*r:=by omega
theorem Lg.mount (h:Lg f r st p q n pf) (iw:Clean f r st (ay f p)) (h1:8≤r) (h2:r≤4096):Fa f (128*r)=(0,q,((st / r:Nat):Int),((ay f p - st:Nat):Int),n,dc f p):=by
 unfold Fa
 rw[if_pos (NV h1 h2),Sm,jM,h.live]
 simp only
 rw[if_pos (h.oZ.2 iw),h.last,h.seq,h.len]
theorem BK {r':nI} (h1:8≤r) (h2:r≤4096):KC (128*r) at_ r'=eB (m8 at_ r'):=if_pos (NV h1 h2)
theorem ny {r':nI} (h1:8≤r) (h2:r≤4096):BF kn kb ct f (128*r) at_ r'=fq kn kb ct f at_ r':=if_pos (NV h1 h2)
theorem PI (h1:8≤r) (hr:aM n≤r) (hn:n < 4294967296):Lg (iY (fun _=>0) (eX 0 n 1 pf)) r 0 0 1 n pf∧Clean (iY (fun _=>0) (eX 0 n 1 pf)) r 0 (ay (iY (fun _=>0) (eX 0 n 1 pf)) 0):=by
 have jk:Rec (iY (fun _=>0) (eX 0 n 1 pf)) 0 1 n pf:=BI
 obtain ⟨e1,e2,e3,e4⟩:=jk.read (by decide) (by decide) hn
 have z: ∀ b,aM n≤b→ ∀ j,j < 64→iY (fun _=>0) (eX 0 n 1 pf) (64*b+j)=0:=fun b hb j hj=>by
  rw[fH]at hb
  rw[ng hj,if_neg (by omega),if_neg (by omega)]
 have dead: ∀ b,aM n≤b→ml (iY (fun _=>0) (eX 0 n 1 pf)) b:=fun b hb=>by
  left
  have:=z b hb 0 (by decide)
  rw[Nat.add_zero]at this
  rw[this];decide
 have fin:ay (iY (fun _=>0) (eX 0 n 1 pf)) 0 < 0+r→ml (iY (fun _=>0) (eX 0 n 1 pf)) (ay (iY (fun _=>0) (eX 0 n 1 pf)) 0):=fun _=>by
  rw[e4];exact dead _ (by omega)
 refine ⟨⟨.inl rfl,by omega,jk.ok (by decide) (by decide) hn (by omega),c8 (BH fun hh=>(fin hh).bad),e1,e2,e3,fin, .inl (dead _ (by omega))⟩,fun a _ ho=>z a ?_⟩
 rw[e4]at ho;omega
theorem Lg.settle (h:Lg f r st p q n pf) {UF:Nat} {kb':Nat→Bool} {UG:Int} (hg:g=fq UF kb' UG (fq kn kb ct f at_ (bZ f (2*r))) 0 (bZ (fq kn kb ct f at_ (bZ f (2*r))) (2*r))):
  Lg g r st p q n pf∧ay g p=ay f p∧Clean g r st (ay g p):=by
 obtain ⟨h1,h2⟩:=h.recover (at_:=at_) (kn:=kn) (kb:=kb) (cut:=ct)
 obtain ⟨h3,h4⟩:=h1.recover (at_:=0) (kn:=UF) (kb:=kb') (cut:=UG)
 have h5:=h1.Si (at_:=0) (kn:=UF) (kb:=kb') (cut:=UG) (Int.le_refl 0)
 rw[← hg]at h3 h4 h5
 exact ⟨h3,h4.trans h2,by rw[h4];exact h5⟩
theorem KK {r':nI} (h0:r'.1=none) {m:Nat} (hm:m≤dF r'.2):m8 at_ r'=none∧Whole at_ ct m∨m8 at_ r'=some 0∧0 < at_:=by
 unfold m8 bk Whole
 by_cases hs:0 < at_∧at_≤0+((dF r'.2:Nat):Int)
 ·rw[if_pos (by rw[decide_eq_true_eq];exact hs)]
  exact .inr ⟨rfl,hs.1⟩
 ·rw[if_neg (by rw[decide_eq_true_eq];exact hs),h0]
  exact .inl ⟨rfl,by omega⟩
end
def xF (kn:Nat) (kb:Nat→Bool) (cut:Int) (f:Nat→Int) (n:Nat) (at_:Int):Nat→Int:=
 BF 0 (fun _=>false) 0 (BF kn kb cut f n at_ (bZ f (n / 64))) n 0 (bZ (BF kn kb cut f n at_ (bZ f (n / 64))) (n / 64))
def NW (k n:Nat) (g:Nat→Int) (v:AV) (out:Nat→Option aG):Prop:= ∃ pv,v=Sum.inl (Sum.inl pv)∧Told k n g pv out
section
variable {s:AS} {nm F k:Nat} {args l:List AV} {ins:Nat→Option aG} {dst:Option Nat} {K:AS→Prop} {r:Nat→Nat}
theorem qN {n:Nat} {code:Int} {g:Nat→Int} (h:bC Tryd.prog F args k ins (gI k code n g)) (hfit:Fits s r ins none) (hl:l=args.map (AV.ren r))
  (hK: ∀ pv bx,km bx nm n g pv→(∀ t,t≠nm→bx t=s.box t)→K (({ s with box:=bx }:AS).put dst (some (Ag [Sum.inl (.int .i64 code),pv])))):aB Tryd.prog nm F (some l) dst K s:=by
 refine h.aB r none hfit hl ?_
 rintro v out hv _
 obtain ⟨pv,rfl,ht⟩:=xE hv
 obtain ⟨h1,h2⟩:=qM (s:=s) (nm:=nm) (r:=r) ht
 exact hK _ _ h1 h2
end
theorem km.some {bx:Nat→Option aG} {nm n:Nat} {g:Nat→Int} {v:SV} (h:km bx nm n g v) (h0:0 < n): ∃ c cs,v= .inr (.inr (nm,0,n,c))∧n≤c∧bx nm=Option.some ⟨true,cs⟩∧cs.all SV.plain=true∧bu cs 0 n g:=by
 rcases h with ⟨_,h⟩ | h
 ·omega
 ·exact h
theorem km.as {bx:Nat→Option aG} {nm n:Nat} {g g':Nat→Int} {v:SV} (h:km bx nm n g v) (e: ∀ i,i < n→g i=g' i):km bx nm n g' v:=by
 rcases h with ⟨rfl,h0⟩ | ⟨c,cs,rfl,h4,h1,h2,h3⟩
 ·exact .inl ⟨rfl,h0⟩
 ·exact .inr ⟨c,cs,rfl,h4,h1,h2,fun i hi=>by rw[← e i hi];exact h3 i hi⟩
theorem NY {s:AS} {k q n:Nat} {g:Nat→Int} {v:SV} (hq:k≤q) (h:km s.box q n g v):nA k (NW k n g) (Sum.inl (Sum.inl v)) s:=by
 rcases h with ⟨rfl,h0⟩ | ⟨c,cs,rfl,h4,h1,h2,h3⟩
 ·exact aL rfl ⟨_,rfl, .inl ⟨rfl,h0,rfl⟩⟩
 ·refine dD (q:=q) (v0:=Sl k 0 n c) (l:=[(k,⟨true,cs⟩)]) hq ?_ (show k < k+1 from Nat.lt_succ_self k) (fun x hx=> ?_) ⟨_,rfl, .inr ⟨c,cs,rfl,h4,h3,h2,rfl⟩⟩
  ·show Sl q 0 n c=Sl (iT k q k) 0 n c
   rw[jO]
  ·rw[List.mem_singleton]at hx
   subst hx
   refine ⟨Nat.lt_succ_self k,fun _=>rfl,ai h2, ?_⟩
   show s.box (iT k q k)=_
   rw[jO,az h2];exact h1
theorem KL {kn n o c:Nat} {kb:Nat→Bool} {ks:SV} {kc cs:List SV} {at_ cut:Int} {f:Nat→Int} (hs:bu cs o n f) (hc:n≤c) (hp:cs.all SV.plain=true) (hn:n≤1048576) (h0:0 < n) (hf:cU f) (hg:cU (BF kn kb cut f n at_ (bZ f (n / 64)))) (hk:ft 1 ks kn kb kc) (hq:kc.all SV.plain=true):
  bC Tryd.prog 9 [Sl 0 o n c,Ag (cL at_ cut ks)] 2 (lk [(0,⟨false,cs⟩),(1,⟨false,kc⟩)]) (NW 2 n (xF kn kb cut f n at_)):=by
 refine aU Tryd.func9 rfl (by kernel_rfl) (by simp[Tryd.ntmps9]) Tryd.rZ (fun v hv=>by
  simp only[cz]at hv
  rcases hv with rfl | rfl
  ·exact (by decide:0 < 2)
  ·exact EJ hk (by decide)) xX (xY hp hq) ?_
 have hz:zeroOf Tryd.prog 33=some [.int .i64 0, .slice none 0 0, .int .i64 0]:=by kernel_rfl
 simp only[Tryd.results9,hz,cL,bJ,seval]
 have WB:SV.ren (two 0 1) ks=ks:=by
  rcases hk with ⟨⟨a,rfl⟩,_⟩ | ⟨o',c',rfl,_⟩
  ·rfl
  ·rfl
 refine qN (xw (at_:=at_) (cut:=cut) hs hc hp hn hf hk hq) (r:=two 0 1) (lY (rw:=false) (rw':=false) (by simp only[ae,vR,seval]) hp (by simp only[ae,vR,seval]) hq) ?_ fun v1 XV n1 e1=> ?_
 ·show _=[Sl 0 o n c,Ag [Sum.inl (.int .i64 at_),SV.ren (two 0 1) ks,Sum.inl (.int .i64 cut)]]
  rw[WB]
 obtain ⟨c1,wB,rfl,d1,d2,d3,d4⟩:=n1.some h0
 simp only[hz,bJ,seval]
 have b1:XV 1=some ⟨false,kc⟩:=(e1 1 (by decide)).trans (by simp only[ae,vR,seval])
 refine qN (xw (at_:=0) (cut:=0) (ks:= .inl (.slice none 0 0)) (kn:=0) (kb:=fun _=>false) (kc:=kc) d4 d1 d3 hn hg (.inl ⟨⟨none,rfl⟩,rfl⟩) hq) (r:=two 6 1) (lY (rw:=true) (rw':=false) (by simp only[d2,ae,vR,seval]) d3 (by simp only[b1,ae,vR,seval]) hq) rfl fun v2 WC n2 e2=> ?_
 simp only[hz,bJ,seval]
 exact NY (by decide) n2
theorem PJ {np n o c:Nat} {sv:SV} {ps cs:List SV} {q lv nx:Int} {f pf h:Nat→Int} (hs:bu cs o n f) (hc:n≤c) (hp:cs.all SV.plain=true) (hn:n≤1048576) (hf:cU f) (hl:cY 1 sv np pf ps) (hps:ps.all SV.plain=true) (hm:Fa f n=(0,q,lv,nx,np,h)) (he: ∀ i,i < np→h i=pf i) (hnp:np < 4611686018427387904):
  bC Tryd.prog 10 [Sl 0 o n c,I .u64 q,Sum.inl (Sum.inl sv)] 2 (lk [(0,⟨false,cs⟩),(1,⟨false,ps⟩)]) (fun v out=>v=B true∧out=fun _=>none):=by
 refine aU Tryd.func10 rfl (by kernel_rfl) (by simp[Tryd.ntmps10]) Tryd.pX (fun v hv=>by
  simp only[cz]at hv
  rcases hv with rfl | rfl | rfl
  ·exact (by decide:0 < 2)
  ·trivial
  ·exact (hl.ok (show 1 < 2 by decide)).1) xX (xY hp hps) ?_
 have hz:zeroOf Tryd.prog 40=some [.int .i64 0, .int .u64 0, .int .i64 0, .int .i64 0, .slice none 0 0]:=by kernel_rfl
 simp only[Tryd.results10,hz,bJ,seval]
 refine nh (uB hs hc hp hn hf) (r:=fun _=>0) (dU (rw:=false) (by simp only[ae,vR,seval]) hp) rfl fun v2 WC n2 e2=> ?_
 rw[hm]at n2 ⊢
 simp only[SJ,ui,beq_self_eq_true,cQ,bJ,seval]
 have b1:WC 1=some ⟨false,ps⟩:=(e2 1 (by decide)).trans (by simp only[ae,vR,seval])
 have n3:km WC 4 np pf v2:=n2.as he
 refine Ak (n:=np) (f:=pf) hnp (n3.move (by simp only[ae,vR,seval])).bytes (hl.arg.at (rw:=false) (by simp only[b1,ae,vR,seval]) hps) ?_
 simp only[bJ,seval]
 exact aL rfl ⟨rfl,rfl⟩
section
variable {f pf:Nat→Int} {n a kn cut T m st nn:Nat} {q at_ ct:Int} {kb:Nat→Bool}
def yi (Gs:List (List Pd)):Prop:= ∀ G ∈ Gs, ∀ x ∈ G,cU x.2
theorem PK {p:Pd} (hf:cU f) (hp:cU p.2):cU (ka f p):=fun i=>by
 unfold ka
 split
 ·exact hp _
 ·exact hf i
theorem uG: ∀ {L:List Pd} {f:Nat→Int},cU f→(∀ x ∈ L,cU x.2)→cU (eh f L)
 | [],f,hf,_=>hf
 | p::L,f,hf,h=>uG (L:=L) (f:=ka f p) (PK hf (h p (List.mem_cons_self ..))) fun x hx=>h x (List.mem_cons_of_mem _ hx)
theorem GU: ∀ {Gs:List (List Pd)} {f:Nat→Int},cU f→yi Gs→cU (iY f Gs)
 | [],f,hf,_=>hf
 | G::Gs,f,hf,h=>GU (Gs:=Gs) (f:=eh f G) (uG hf (h G (List.mem_cons_self ..))) fun x hx=>h x (List.mem_cons_of_mem _ hx)
theorem Sn:cU zF:=fun i=>⟨(by decide:(0:Int)≤0),(by decide:(0:Int) < 256)⟩
theorem Jh: ∀ {Gs:List (List Pd)} {f:Nat→Int} {T:Nat},cU f→yi Gs→cU (gN kn kb cut f Gs T)
 | [],f,T,hf,_=>hf
 | G::Gs,f,T,hf,h=>by
  unfold gN
  have hG:=h G (List.mem_cons_self ..)
  split
  ·rename_i hT
   intro i
   unfold fF
   split
   ·have:(G.getD T (0,zF)) ∈ G:=by
     rw[List.getD_eq_getElem?_getD,List.getElem?_eq_getElem hT]
     exact List.getElem_mem hT
    exact hG _ this _
   ·exact uG hf (fun x hx=>hG x (List.mem_of_mem_take (mo hx))) i
  ·exact Jh (Gs:=Gs) (uG hf hG) fun x hx=>h x (List.mem_cons_of_mem _ hx)
theorem sD {r:nI} (hf:cU f) (h:yi r.2):cU (BF kn kb ct f n at_ r):=by
 unfold BF fq
 split
 ·split
  ·exact Jh hf h
  ·exact GU hf h
 ·exact hf
theorem PL:cU (gM q n pf):=fun i=>by
 unfold gM upd
 split
 ·exact ⟨by decide,by decide⟩
 ·dsimp only
  split
  ·unfold sw
   split
   ·exact ⟨(by decide:(0:Int)≤0),(by decide:(0:Int) < 256)⟩
   ·exact Mb _ _ _ _ _
  ·exact Ee i
theorem PN (h:cU pf):cU (fX n pf):=fun i=>by
 unfold fX
 split
 ·exact h i
 ·exact ⟨(by decide:(0:Int)≤0),(by decide:(0:Int) < 256)⟩
theorem NZ {A:List Nat}:yi [zL A]:=fun G hG x hx=>by
 rw[List.mem_singleton]at hG
 subst hG
 rw[(qL hx).1]
 exact Sn
theorem BL (h:cU pf):yi (eX a n q pf):=fun G hG x hx=>by
 unfold eX at hG
 simp only[cz]at hG
 rcases hG with rfl | rfl
 ·unfold dM at hx
  rw[List.mem_map]at hx
  obtain ⟨i,_,rfl⟩:=hx
  exact fun j=>PN h _
 ·rw[List.mem_singleton]at hx
  subst hx
  exact PL
theorem N0 (h:cU pf):yi (qQ a n q pf st nn):=fun G hG=>by
 unfold qQ at hG
 rcases List.mem_append.1 hG with hG | hG
 ·exact BL h G hG
 ·exact NZ G hG
theorem BM:yi []:=fun G hG=>by cases hG
theorem xG:yi (bZ f m).2:=by
 unfold bZ
 split
 ·exact BM
 ·exact NZ
theorem Al (hf:cU f):yi (bE f m).2:=by
 unfold bE
 (repeat' split)<;>first | exact BM | exact N0 (fun i=>hf _)
theorem N1 (h:cU pf):yi (aN f m n pf).2:=by
 unfold aN
 (repeat' split)<;>first | exact BM | exact N0 h | exact BL h
theorem EZ {f:Nat→Int} (hf:cU f):cU (xF kn kb ct f n at_):=sD (sD hf xG) xG
end
def o7 (bx:Nat→Option aG) (sv:SV) (n:Nat) (f:Nat→Int):Prop:=
 ((∃ a,sv= .inl (.slice a 0 0))∧n=0)∨ ∃ t o c rw cs,sv= .inr (.inr (t,o,n,c))∧n≤c∧bx t=some ⟨rw,cs⟩∧cs.all SV.plain=true∧bu cs o n f
def sE (bx:Nat→Option aG) (ks:SV) (n:Nat) (f:Nat→Bool):Prop:=
 ((∃ a,ks= .inl (.slice a 0 0))∧n=0)∨ ∃ t o c rw cs,ks= .inr (.inr (t,o,n,c))∧bx t=some ⟨rw,cs⟩∧cs.all SV.plain=true∧ ∀ i,i < n→cs[o+i]? =some (Sum.inl (.bool (f i)))
section
variable {bx P3:Nat→Option aG} {sv ks:SV} {n kn X:Nat} {f:Nat→Int} {kb:Nat→Bool} {rw:Bool} {gJ:List SV}
theorem o7.bytes (h:o7 bx sv n f):iD bx (Sum.inl (Sum.inl sv)) n f:=by
 rcases h with ⟨⟨a,rfl⟩,h0⟩ | ⟨t,o,c,rw,cs,rfl,_,h1,h2,h3⟩
 ·exact .inl ⟨⟨a,rfl⟩,h0⟩
 ·exact .inr ⟨t,o,c,rw,cs,rfl,h1,h2,h3⟩
theorem o7.move (h:o7 bx sv n f) (e: ∀ t cs rw,bx t=some ⟨rw,cs⟩→ ∃ rw',P3 t=some ⟨rw',cs⟩):o7 P3 sv n f:=by
 rcases h with h | ⟨t,o,c,rw,cs,rfl,h4,h1,h2,h3⟩
 ·exact .inl h
 ·obtain ⟨rw',h5⟩:=e t cs rw h1
  exact .inr ⟨t,o,c,rw',cs,rfl,h4,h5,h2,h3⟩
theorem sE.move (h:sE bx ks kn kb) (e: ∀ t cs rw,bx t=some ⟨rw,cs⟩→ ∃ rw',P3 t=some ⟨rw',cs⟩):sE P3 ks kn kb:=by
 rcases h with h | ⟨t,o,c,rw,cs,rfl,h1,h2,h3⟩
 ·exact .inl h
 ·obtain ⟨rw',h5⟩:=e t cs rw h1
  exact .inr ⟨t,o,c,rw',cs,rfl,h5,h2,h3⟩
theorem o7.pick (h:o7 bx sv n f) (hX:bx X=some ⟨rw,gJ⟩) (hp:gJ.all SV.plain=true) (u:Nat): ∃ t rw' cs Q5,bx t=some ⟨rw',cs⟩∧cs.all SV.plain=true∧cY u Q5 n f cs∧ ∀ r:Nat→Nat,r u=t→SV.ren r Q5=sv:=by
 rcases h with ⟨⟨a,rfl⟩,h0⟩ | ⟨t,o,c,rw',cs,rfl,h4,h1,h2,h3⟩
 ·exact ⟨X,rw,gJ,_,hX,hp, .inl ⟨⟨a,rfl⟩,h0⟩,fun r _=>rfl⟩
 ·exact ⟨t,rw',cs,_,h1,h2, .inr ⟨o,c,rfl,h4,h3⟩,fun r h=>by show Sum.inr (Sum.inr (r u,o,n,c))=_;rw[h]⟩
theorem sE.pick (h:sE bx ks kn kb) (hX:bx X=some ⟨rw,gJ⟩) (hp:gJ.all SV.plain=true) (u:Nat): ∃ t rw' cs K0,bx t=some ⟨rw',cs⟩∧cs.all SV.plain=true∧ft u K0 kn kb cs∧ ∀ r:Nat→Nat,r u=t→SV.ren r K0=ks:=by
 rcases h with ⟨⟨a,rfl⟩,h0⟩ | ⟨t,o,c,rw',cs,rfl,h1,h2,h3⟩
 ·exact ⟨X,rw,gJ,_,hX,hp, .inl ⟨⟨a,rfl⟩,h0⟩,fun r _=>rfl⟩
 ·exact ⟨t,rw',cs,_,h1,h2, .inr ⟨o,c,rfl,h3⟩,fun r h=>by show Sum.inr (Sum.inr (r u,o,kn,c))=_;rw[h]⟩
end
theorem KM {s:AS} {nm F k:Nat} {args l:List AV} {ins:Nat→Option aG} {dst:Option Nat} {K:AS→Prop} {r:Nat→Nat} {n:Nat} {g:Nat→Int} (h:bC Tryd.prog F args k ins (NW k n g)) (hfit:Fits s r ins none) (hl:l=args.map (AV.ren r))
  (hK: ∀ pv bx,km bx nm n g pv→(∀ t,t≠nm→bx t=s.box t)→K (({ s with box:=bx }:AS).put dst (some (Sum.inl (Sum.inl pv))))):bD Tryd.prog nm F (some l) dst K s:=by
 refine h.wide.aB r none hfit hl ?_
 rintro v out ⟨pv,rfl,ht⟩
 obtain ⟨h1,h2⟩:=tV (s:=s) (nm:=nm) (r:=r) ht
 exact hK _ _ h1 h2
section
variable {s:AS} {nm X n c np kn:Nat} {f pf:Nat→Int} {kb:Nat→Bool} {pv ks:SV} {gJ:List SV} {rw:Bool} {at_ cut:Int} {dst:Option Nat} {K:AS→Prop}
theorem BN (hX:s.box X=some ⟨rw,gJ⟩) (hp:gJ.all SV.plain=true) (hs:bu gJ 0 n f) (hc:n≤c) (hn:n≤1048576) (hf:cU f) (hl:o7 s.box pv np pf) (hpf:cU pf) (hnp:np < 9223372036854775000) (hk:sE s.box ks kn kb)
  (hK: ∀ v bx,km bx nm n (BF kn kb cut f n at_ (aN f (n / 64) np pf)) v→(∀ t,t≠nm→bx t=s.box t)→K (({ s with box:=bx }:AS).put dst (some (Ag [Sum.inl (.int .i64 (KC n at_ (aN f (n / 64) np pf))),v])))):
  bD Tryd.prog nm 6 (some [Sl X 0 n c,Sum.inl (Sum.inl pv),Ag (cL at_ cut ks)]) dst K s:=by
 obtain ⟨t1,r1,ps,Q5,b1,q1,l1,e1⟩:=hl.pick hX hp 1
 obtain ⟨t2,r2,kc,K0,b2,q2,k2,e2⟩:=hk.pick hX hp 2
 refine tW (KE (at_:=at_) (cut:=cut) hs hc hp hn hf k2 q2 l1 q1 hpf hnp) (r:=three X t1 t2) (Tn hX hp b1 q1 b2 q2) ?_ hK
 show _=[Sl X 0 n c,Sum.inl (Sum.inl (SV.ren (three X t1 t2) Q5)),Ag (cL at_ cut (SV.ren (three X t1 t2) K0))]
 rw[e1 _ rfl,e2 _ rfl]
theorem yj (hX:s.box X=some ⟨rw,gJ⟩) (hp:gJ.all SV.plain=true) (hs:bu gJ 0 n f) (hc:n≤c) (hn:n≤1048576) (hf:cU f) (hk:sE s.box ks kn kb)
  (hK: ∀ v bx,km bx nm n (BF kn kb cut f n at_ (bE f (n / 64))) v→(∀ t,t≠nm→bx t=s.box t)→K (({ s with box:=bx }:AS).put dst (some (Ag [Sum.inl (.int .i64 (KC n at_ (bE f (n / 64)))),v])))):
  bD Tryd.prog nm 11 (some [Sl X 0 n c,Ag (cL at_ cut ks)]) dst K s:=by
 obtain ⟨t2,r2,kc,K0,b2,q2,k2,e2⟩:=hk.pick hX hp 1
 refine tW (xx (at_:=at_) (cut:=cut) hs hc hp hn hf k2 q2) (r:=two X t2) (lY hX hp b2 q2) ?_ hK
 show _=[Sl X 0 n c,Ag (cL at_ cut (SV.ren (two X t2) K0))]
 rw[e2 _ rfl]
theorem lP (hX:s.box X=some ⟨rw,gJ⟩) (hp:gJ.all SV.plain=true) (hs:bu gJ 0 n f) (hc:n≤c) (hn:n≤1048576) (hf:cU f) (hk:sE s.box ks kn kb)
  (hK: ∀ v bx,km bx nm n (BF kn kb cut f n at_ (bE f (n / 64))) v→(∀ t,t≠nm→bx t=s.box t)→K (({ s with box:=bx }:AS).put dst (some (Ag [Sum.inl (.int .i64 (KC n at_ (bE f (n / 64)))),v])))):
  aB Tryd.prog nm 11 (some [Sl X 0 n c,Ag (cL at_ cut ks)]) dst K s:=by
 obtain ⟨t2,r2,kc,K0,b2,q2,k2,e2⟩:=hk.pick hX hp 1
 refine qN (xx (at_:=at_) (cut:=cut) hs hc hp hn hf k2 q2) (r:=two X t2) (lY hX hp b2 q2) ?_ hK
 show _=[Sl X 0 n c,Ag (cL at_ cut (SV.ren (two X t2) K0))]
 rw[e2 _ rfl]
theorem pJ (hX:s.box X=some ⟨rw,gJ⟩) (hp:gJ.all SV.plain=true) (hs:bu gJ 0 n f) (hc:n≤c) (hn:n≤1048576) (h0:0 < n) (hf:cU f) (hk:sE s.box ks kn kb)
  (hK: ∀ v bx,km bx nm n (xF kn kb cut f n at_) v→(∀ t,t≠nm→bx t=s.box t)→K (({ s with box:=bx }:AS).put dst (some (Sum.inl (Sum.inl v))))):
  bD Tryd.prog nm 9 (some [Sl X 0 n c,Ag (cL at_ cut ks)]) dst K s:=by
 obtain ⟨t2,r2,kc,K0,b2,q2,k2,e2⟩:=hk.pick hX hp 1
 refine KM (KL (at_:=at_) (cut:=cut) hs hc hp hn h0 hf (sD hf xG) k2 q2) (r:=two X t2) (lY hX hp b2 q2) ?_ hK
 show _=[Sl X 0 n c,Ag (cL at_ cut (SV.ren (two X t2) K0))]
 rw[e2 _ rfl]
theorem jH {q lv nx:Int} {h:Nat→Int} (hX:s.box X=some ⟨rw,gJ⟩) (hp:gJ.all SV.plain=true) (hs:bu gJ 0 n f) (hc:n≤c) (hn:n≤1048576) (hf:cU f) (hl:o7 s.box pv np pf) (hm:Fa f n=(0,q,lv,nx,np,h)) (he: ∀ i,i < np→h i=pf i) (hnp:np < 4611686018427387904)
  (hK:K (s.put dst (some (B true)))):aB Tryd.prog nm 10 (some [Sl X 0 n c,I .u64 q,Sum.inl (Sum.inl pv)]) dst K s:=by
 obtain ⟨t1,r1,ps,Q5,b1,q1,l1,e1⟩:=hl.pick hX hp 1
 refine (PJ (q:=q) hs hc hp hn hf l1 q1 hm he hnp).iB (two X t1) (lY hX hp b1 q1) rfl ?_ hK
 show _=[Sl X 0 n c,I .u64 q,Sum.inl (Sum.inl (SV.ren (two X t1) Q5))]
 rw[e1 _ rfl]
theorem tX {m:Int} (hX:s.box X=some ⟨rw,gJ⟩) (hp:gJ.all SV.plain=true) (hk:sE s.box ks kn kb) (hK:K (s.put dst (some (B (fI at_ cut m))))):
  aB Tryd.prog nm 8 (some [Ag (cL at_ cut ks),I .i64 m]) dst K s:=by
 obtain ⟨t2,r2,kc,K0,b2,q2,k2,e2⟩:=hk.pick hX hp 0
 refine (Jg (at_:=at_) (cut:=cut) (m:=m) k2 q2).iB (fun _=>t2) (dU b2 q2) rfl ?_ hK
 show _=[Ag (cL at_ cut (SV.ren (fun _=>t2) K0)),I .i64 m]
 rw[e2 _ rfl]
theorem PO {m:Int} {a:Option Addr}:
  bC Tryd.prog 8 [Ag (cL at_ cut (.inl (.slice a 0 0))),I .i64 m] 0 (fun _=>none) (fun v out=>v=B (fI at_ cut m)∧out=fun _=>none):=by
 refine aU Tryd.func8 rfl (by kernel_rfl) (by simp[Tryd.ntmps8]) Tryd.oS (fun v hv=>by
  simp only[cz]at hv
  rcases hv with rfl | rfl
  ·intro x hx
   simp only[cL,cz]at hx
   rcases hx with rfl | rfl | rfl<;>exact ⟨trivial,rfl⟩
  ·trivial) (fun n hn=>by omega) (fun n b hn=>by cases hn) ?_
 have w1:fI at_ cut m=(decide (at_≤0)||decide (m < at_)||(decide (at_=m)&&decide (64≤cut))):=rfl
 by_cases h1:at_≤0
 ·have e:fI at_ cut m=true:=by rw[w1,decide_eq_true h1];rfl
  rw[e]
  simp only[Tryd.results8,cL,h1,decide_true,bJ,seval]
  exact aL rfl ⟨rfl,rfl⟩
 by_cases h2:m < at_
 ·have e:fI at_ cut m=true:=by rw[w1,decide_eq_false h1,decide_eq_true h2];rfl
  rw[e]
  simp only[Tryd.results8,cL,h1,h2,decide_true,decide_false,bJ,seval]
  exact aL rfl ⟨rfl,rfl⟩
 by_cases h3:at_=m
 ·subst h3
  have e:fI at_ cut at_=decide (64≤cut):=by rw[w1,decide_eq_false h1,decide_eq_false h2,decide_eq_true rfl];rfl
  rw[e]
  simp only[Tryd.results8,cL,h1,h2,beq_self_eq_true,decide_true,decide_false,bJ,seval]
  exact aL rfl ⟨rfl,rfl⟩
 ·have e:fI at_ cut m=false:=by rw[w1,decide_eq_false h1,decide_eq_false h2,decide_eq_false h3];rfl
  have b3:(at_==m)=false:=by simpa using h3
  rw[e]
  simp only[Tryd.results8,cL,h1,h2,b3,decide_true,decide_false,bJ,seval]
  exact aL rfl ⟨rfl,rfl⟩
theorem GV {m:Int} {ops:Array Oper} {i:Nat} (hk:sE s.box ks kn kb) (hK:K (s.put dst (some (B (fI at_ cut m))))):
  qW Tryd.prog ops i nm 8 (some [Ag (cL at_ cut ks),I .i64 m]) dst K s:=by
 rcases hk with ⟨⟨a,rfl⟩,h0⟩ | ⟨t,o,c,rw',cs,rfl,h1,h2,h3⟩
 ·exact (PO (at_:=at_) (cut:=cut) (m:=m)).iC (fun n=>n) Dj rfl rfl (fun M h n hn=>by omega) hK
 ·refine (Jg (at_:=at_) (cut:=cut) (m:=m) (ks:= .inr (.inr (0,o,kn,c))) (.inr ⟨o,c,rfl,h3⟩) h2).iC (fun _=>t) (dU h1 h2) rfl rfl (fun M h n hn=> ?_) hK
  exact ((h (Ag (cL at_ cut (.inr (.inr (t,o,kn,c))))) (List.mem_cons_self ..): ∀ x ∈ cL at_ cut (.inr (.inr (t,o,kn,c))),SV.ok M x) _ (List.mem_cons_of_mem _ (List.mem_cons_self ..))).1
end
theorem o7.len {bx:Nat→Option aG} {sv:SV} {n:Nat} {f:Nat→Int} (h:o7 bx sv n f):dI 1 (some [Sum.inl (Sum.inl sv)])=some (some (I .i64 n),none):=by
 rcases h with ⟨⟨a,rfl⟩,rfl⟩ | ⟨t,o,c,rw,cs,rfl,_⟩
 ·rfl
 ·rfl
theorem xH {bx:Nat→Option aG} {nm n:Nat} {g:Nat→Int} {v:SV} (h:km bx nm n g v):dI 1 (some [Sum.inl (Sum.inl v)])=some (some (I .i64 n),none):=by
 rcases h with ⟨rfl,rfl⟩ | ⟨c,cs,rfl,_⟩
 ·rfl
 ·rfl
theorem N2 {dm:List Nat} {b:Nat→Option aG} {t:Nat} {rw:Bool} {cs:List SV} (h:b t=some ⟨rw,cs⟩): ∃ rw',kI dm b t=some ⟨rw',cs⟩:=by
 unfold kI
 split
 ·rw[h];exact ⟨_,rfl⟩
 ·exact ⟨_,h⟩
theorem Ji {dm:List Nat} {b:Nat→Option aG} {t:Nat} (h: ∀ x,b t=some x→x.rw=false):kI dm b t=b t:=by
 unfold kI
 split
 ·split
  ·rename_i x hx
   have:=h x hx
   obtain ⟨rw,cs⟩:=x
   simp only at this
   subst this
   rw[hx]
  ·rename_i hx;rw[hx]
 ·rfl
theorem GX {f pf:Nat→Int} {r st p n n0:Nat} {q:Int} {BJ:Nat→Int} (h:Lg f r st p q n0 BJ) (iw:Clean f r st (ay f p)) (hr:r < aM n) (hq:q+1 < 18446744073709551616):aN f (2*r) n pf=(some 4,[]):=by
 unfold aN
 rw[h.half,h.live]
 simp only
 rw[if_neg (fun hh=>hh (h.oZ.2 iw)),h.last,h.seq,if_neg (by omega),if_pos hr]
theorem xI {at_:Int}:bk at_ 0 (dF [])=false:=by
 unfold bk dF
 rw[decide_eq_false_iff_not]
 omega
theorem Vp {a b x y:SV}:splice [a,b] 0 [x,y]=[x,y]:=rfl
theorem N3 {cs:List SV} {i:Nat} {a b c:SV} (h1:cs[i]? =some a) (h2:cs[i+1]? =some b) (h3:cs[i+2]? =some c):i+3≤cs.length∧List.take 3 (List.drop i cs)=[a,b,c]:=by
 have l:=(List.getElem?_eq_some_iff.1 h3).1
 refine ⟨by omega, ?_⟩
 apply List.ext_getElem?
 intro j
 rcases j with _ | _ | _ | j
 ·rw[List.getElem?_take_of_lt (by decide),List.getElem?_drop];exact h1
 ·rw[List.getElem?_take_of_lt (by decide),List.getElem?_drop];exact h2
 ·rw[List.getElem?_take_of_lt (by decide),List.getElem?_drop];exact h3
 ·rw[List.getElem?_eq_none (by rw[List.length_take];omega)];rfl
structure WD (ins:Nat→Option aG) (t:Nat) (sv:SV) (K:Nat) (ps:Nat→SV) (pn:Nat→Nat) (pf:Nat→Nat→Int):Prop where
 len:dI 1 (some [Sum.inl (Sum.inl sv)])=some (some (I .i64 K),none)
 nm:SV.ok (fun n=>n < 10000000) sv
 at_:0 < K→ ∃ o c cs,sv= .inr (.inr (t,o,K,c))∧ins t=some ⟨false,cs⟩∧ ∀ i,i < K→cs[o+i]? =some (ps i)
 el: ∀ i,i < K→o7 ins (ps i) (pn i) (pf i)∧SV.ok (fun n=>n < 10000000) (ps i)∧cU (pf i)∧pn i≤1048576
structure UH (ins:Nat→Option aG) (t:Nat) (sv:SV) (K:Nat) (ca cc:Nat→Int) (ks:Nat→SV) (kn:Nat→Nat) (kb:Nat→Nat→Bool):Prop where
 len:dI 1 (some [Sum.inl (Sum.inl sv)])=some (some (I .i64 K),none)
 nm:SV.ok (fun n=>n < 10000000) sv
 at_:0 < K→ ∃ o c cs,sv= .inr (.inr (t,o,K,c))∧ins t=some ⟨false,cs⟩∧ ∀ i,i < K→cs[o+i*3]? =some (Sum.inl (.int .i64 (ca i)))∧cs[o+i*3+1]? =some (ks i)∧cs[o+i*3+2]? =some (Sum.inl (.int .i64 (cc i)))
 el: ∀ i,i < K→sE ins (ks i) (kn i) (kb i)∧SV.ok (fun n=>n < 10000000) (ks i)
def Tp (ins:Nat→Option aG) (rg:Int) (s1 s2 s3 s4 last:SV) (q i:Int) (n c:Nat) (gJ:List SV):AS:=
 ⟨lk [(0,I .i64 rg),(1,Sum.inl (Sum.inl s1)),(2,Sum.inl (Sum.inl s2)),(3,Sum.inl (Sum.inl s3)),(4,Sum.inl (Sum.inl s4)),(11,Sl 10001000 0 n c),(12,Sum.inl (Sum.inl last)),(13,I .u64 q),(14,I .i64 i)],upd ins 10001000 (some ⟨true,gJ⟩),10002000⟩
theorem BO {wd pz:List Nat} {a b:Code} {F:Exit→AS→Prop} {s:AS} (Q:AS→Prop) (h1:iX Tryd.prog wd pz a (fa Q F) s) (h2: ∀ s',Q s'→iX Tryd.prog wd pz b F s'):iX Tryd.prog wd pz (.seq a b) F s:=
 jD a _ _ (fun e t ht=>by
  cases e with
  | normal=>exact h2 t ht
  | _=>exact ht) s h1
structure TL (ins:Nat→Option aG) (r:Nat) (g:Nat→Int) (last:SV) (q hi:Int) (st p nl:Nat) (pl:Nat→Int):Prop where
 lg:Lg g r st p q nl pl
 la:o7 ins last nl pl
 ln:SV.ok (fun n=>n < 10000000) last
 lb:cU pl
 lm:nl≤1048576
 q1:1≤q
 q2:q≤hi
structure TE (ins:Nat→Option aG) (s:AS) (nx:Nat) (rg:Int) (s1 s2 s3 s4:SV) (Zv:AV) (last:SV) (q i:Int):Prop where
 e0:s.env 0=some (I .i64 rg)
 e1:s.env 1=some (Sum.inl (Sum.inl s1))
 e2:s.env 2=some (Sum.inl (Sum.inl s2))
 e3:s.env 3=some (Sum.inl (Sum.inl s3))
 e4:s.env 4=some (Sum.inl (Sum.inl s4))
 Wj:s.env 11=some Zv
 XJ:s.env 12=some (Sum.inl (Sum.inl last))
 Vl:s.env 13=some (I .u64 q)
 Wk:s.env 14=some (I .i64 i)
 lo: ∀ n,n < 10000000→s.box n=ins n
 nx:s.next=nx
structure PQ (ins:Nat→Option aG) (r k:Nat) (last:SV) (q:Int) (c:Nat) (gJ:List SV) (g:Nat→Int) (st p nl:Nat) (pl:Nat→Int):Prop where
 lg:Lg g r st p q nl pl
 cl:Clean g r st (ay g p)
 sh:bu gJ 0 (128*r) g
 pn:gJ.all SV.plain=true
 cap:128*r≤c
 Q6:cU g
 la:o7 ins last nl pl
 ln:SV.ok (fun n=>n < 10000000) last
 lb:cU pl
 lm:nl≤1048576
 q1:1≤q
 q2:q≤1+2*(k:Int)
theorem PQ.up {ins:Nat→Option aG} {r k:Nat} {last:SV} {q:Int} {c:Nat} {gJ:List SV} {g:Nat→Int} {st p nl:Nat} {pl:Nat→Int} (h:PQ ins r k last q c gJ g st p nl pl):PQ ins r (k+1) last q c gJ g st p nl pl:=
 ⟨h.lg,h.cl,h.sh,h.pn,h.cap,h.Q6,h.la,h.ln,h.lb,h.lm,h.q1,by have:=h.q2;omega⟩
theorem Jj {x:SV} {r:Nat→Nat} (h:SV.ok (fun n=>n < 10000000) x) (hr: ∀ n,n < 10000000→r n=n):SV.ren r x=x:=SV.jc (SV.aY (fun n hn=>hr n hn) h.1)
theorem GY {ins:Nat→Option aG} {rg:Int} {s1 s2 s3 s4 last:SV} {q i:Int} {n c:Nat} {gJ:List SV} {s:AS} {m X:Nat} (hm:m≤10001000) (hX:10000000≤X)
  (du: ∀ n b,ins n=some b→n < 10000000∧ ∀ x ∈ b.cells,SV.ok (fun n=>n < 10000000) x) (hro: ∀ n b,ins n=some b→b.rw=false)
  (n1:SV.ok (fun n=>n < 10000000) s1) (n2:SV.ok (fun n=>n < 10000000) s2) (n3:SV.ok (fun n=>n < 10000000) s3) (n4:SV.ok (fun n=>n < 10000000) s4) (n5:SV.ok (fun n=>n < 10000000) last) (hp:gJ.all SV.plain=true)
  (h0:s.env 0=some (I .i64 rg)) (h1:s.env 1=some (Sum.inl (Sum.inl s1))) (h2:s.env 2=some (Sum.inl (Sum.inl s2))) (h3:s.env 3=some (Sum.inl (Sum.inl s3))) (h4:s.env 4=some (Sum.inl (Sum.inl s4)))
  (h11:s.env 11=some (Sl X 0 n c)) (h12:s.env 12=some (Sum.inl (Sum.inl last))) (V5:s.env 13=some (I .u64 q)) (V6:s.env 14=some (I .i64 i))
  (hb: ∀ n,n < 10000000→s.box n=ins n) (Zx:s.box X=some ⟨true,gJ⟩):lh m s (Tp ins rg s1 s2 s3 s4 last q i n c gJ):=by
 have hr: ∀ n,n < 10000000→(fun n=>if n=10001000 then X else n) n=n:=fun n hn=>if_neg (by omega)
 have up: ∀ {x:SV},SV.ok (fun n=>n < 10000000) x→SV.ok (fun n=>n < 10002000) x:=fun h=>SV.aI (fun n hn=>by omega) h
 have ev: ∀ {x:SV},SV.ok (fun n=>n < 10000000) x→(Sum.inl (Sum.inl x):AV)=AV.ren (fun n=>if n=10001000 then X else n) (Sum.inl (Sum.inl x)):=fun {x} h=>by
  show _=Sum.inl (Sum.inl (SV.ren _ x))
  rw[Jj h hr]
 refine ⟨fun n=>if n=10001000 then X else n,⟨fun d v hv=> ?_,fun n b hn=> ?_,fun n n' b b' hn hrw hn' e=> ?_,fun d v hv=> ?_,fun t b ht=> ?_⟩,fun n hn=>if_neg (by omega)⟩
 ·have:=bg _ _ _ hv
  simp only[cz,Prod.mk.injEq]at this
  rcases this with ⟨rfl,rfl⟩ | ⟨rfl,rfl⟩ | ⟨rfl,rfl⟩ | ⟨rfl,rfl⟩ | ⟨rfl,rfl⟩ | ⟨rfl,rfl⟩ | ⟨rfl,rfl⟩ | ⟨rfl,rfl⟩ | ⟨rfl,rfl⟩
  ·exact h0
  ·exact h1.trans (congrArg some (ev n1))
  ·exact h2.trans (congrArg some (ev n2))
  ·exact h3.trans (congrArg some (ev n3))
  ·exact h4.trans (congrArg some (ev n4))
  ·refine h11.trans (congrArg some ?_)
   show _=Sl (if 10001000=10001000 then X else 10001000) 0 _ c
   rw[if_pos rfl]
  ·exact h12.trans (congrArg some (ev n5))
  ·exact V5
  ·exact V6
 ·have hn':upd ins 10001000 (some ⟨true,gJ⟩) n=some b:=hn
  unfold upd at hn'
  split at hn'
  ·rename_i h;subst h;cases hn'
   refine ⟨⟨true,gJ⟩, ?_,fun _=>rfl,(az hp _).symm⟩
   show s.box (if 10001000=10001000 then X else 10001000)=_
   rw[if_pos rfl];exact Zx
  ·obtain ⟨k1,k2⟩:=du n b hn'
   refine ⟨b, ?_,fun h=>h, ?_⟩
   ·show s.box (if n=10001000 then X else n)=_
    rw[if_neg (by omega),hb n k1];exact hn'
   ·conv=>lhs;rw[← List.map_id b.cells]
    exact List.map_congr_left fun x hx=>(Jj (k2 x hx) hr).symm
 ·have low: ∀ n b,upd ins 10001000 (some ⟨true,gJ⟩) n=some b→n=10001000∨n < 10000000:=fun n b hh=>by
   unfold upd at hh
   split at hh
   ·exact .inl (by assumption)
   ·exact .inr (du n b hh).1
  have k1:=low n b hn
  have k2:=low n' b' hn'
  have e:(if n=10001000 then X else n)=(if n'=10001000 then X else n'):=e
  split at e<;>split at e<;>omega
 ·have:=bg _ _ _ hv
  simp only[cz,Prod.mk.injEq]at this
  rcases this with ⟨rfl,rfl⟩ | ⟨rfl,rfl⟩ | ⟨rfl,rfl⟩ | ⟨rfl,rfl⟩ | ⟨rfl,rfl⟩ | ⟨rfl,rfl⟩ | ⟨rfl,rfl⟩ | ⟨rfl,rfl⟩ | ⟨rfl,rfl⟩
  ·trivial
  ·exact (up n1).1
  ·exact (up n2).1
  ·exact (up n3).1
  ·exact (up n4).1
  ·exact (by decide:10001000 < 10002000)
  ·exact (up n5).1
  ·trivial
  ·trivial
 ·have ht':upd ins 10001000 (some ⟨true,gJ⟩) t=some b:=ht
  unfold upd at ht'
  split at ht'
  ·rename_i h;subst h;cases ht'
   exact ⟨(by decide:10001000 < 10002000),ai hp⟩
  ·obtain ⟨k1,k2⟩:=du t b ht'
   exact ⟨show t < 10002000 by omega,fun x hx=>up (k2 x hx)⟩
section
variable {ins:Nat→Option aG} {rg:Int} {s1 s2 s3 s4:SV} {n0 K Kc Ka:Nat} {f0:Nat→Int} {ps:Nat→SV} {pn:Nat→Nat} {pf:Nat→Nat→Int} {ca cc aa ac:Nat→Int} {ck ak:Nat→SV} {cn an:Nat→Nat} {cb ab:Nat→Nat→Bool}
theorem Sp (hall: ∀ n,n < 10000000→ ∃ b,ins n=some b) (du: ∀ n b,ins n=some b→n < 10000000∧ ∀ x ∈ b.cells,SV.ok (fun n=>n < 10000000) x) (hro: ∀ n b,ins n=some b→b.rw=false)
  (h0: ∃ cs,ins 0=some ⟨false,cs⟩∧cs.all SV.plain=true) (h1:o7 ins s1 n0 f0) (SK:SV.ok (fun n=>n < 10000000) s1) (WE:cU f0) (Zy:n0≤1048576) (UI:dI 1 (some [Sum.inl (Sum.inl s1)])=some (some (I .i64 n0),none))
  (h2:WD ins 1 s2 K ps pn pf) (h3:UH ins 2 s3 Kc ca cc ck cn cb) (h4:UH ins 3 s4 Ka aa ac ak an ab) (hK:K≤1048576) (XW:Kc≤1048576) (XX:Ka≤1048576):
  bC Tryd.prog 3 [I .i64 rg,Sum.inl (Sum.inl s1),Sum.inl (Sum.inl s2),Sum.inl (Sum.inl s3),Sum.inl (Sum.inl s4)] 10000000 ins (fun v out=>v=B true∧out=fun _=>none):=by
 refine bO Tryd.func3 rfl (by kernel_rfl) [10,19,24] [] (by simp[Tryd.ntmps3]) Tryd.J3 (fun v hv=> ?_) hall du ?_
 ·simp only[cz]at hv
  rcases hv with rfl | rfl | rfl | rfl | rfl
  ·trivial
  ·exact SK.1
  ·exact h2.nm.1
  ·exact h3.nm.1
  ·exact h4.nm.1
 have N4:zeroOf Tryd.prog 29=some [.int .i64 0, .slice none 0 0]:=by kernel_rfl
 have PS:zeroOf Tryd.prog 33=some [.int .i64 0, .slice none 0 0, .int .i64 0]:=by kernel_rfl
 simp only[Tryd.results3,N4,PS,bJ,seval]
 obtain ⟨cs0,b0,q0⟩:=h0
 obtain ⟨t1,r1,fs,Q5,b1,q1,l1,e1⟩:=h1.pick b0 q0 0
 refine KJ (NJ (r:=rg) l1 q1 WE (by omega)) (r:=fun _=>t1) (dU b1 q1) ?_ fun v1 XV n1 e2=> ?_
 ·show _=[I .i64 rg,Sum.inl (Sum.inl (SV.ren (fun _=>t1) Q5))]
  rw[e1 _ rfl]
 simp only[UI,bJ,seval]
 have UJ:IntKind.i64.wrap (1+((aO n0:Nat):Int))=((aM n0:Nat):Int):=(wrap_i64 _ (by omega) (by unfold aO;omega)).trans (by rw[fH];omega)
 by_cases a1:rg < 8
 ·have UK:KZ rg n0=0:=by
   unfold KZ ES
   rw[if_neg (by rw[decide_eq_true_eq];omega)]
  have lI:=xH n1
  rw[UK]at lI
  have z0:(((0:Nat):Int)==0)=true:=rfl
  simp only[a1,UI,lI,z0,decide_true,decide_false,bJ,seval]
  exact aL rfl ⟨rfl,rfl⟩
 by_cases a2:4096 < rg
 ·have UK:KZ rg n0=0:=by
   unfold KZ ES
   rw[if_neg (by rw[decide_eq_true_eq];omega)]
  have lI:=xH n1
  rw[UK]at lI
  have z0:(((0:Nat):Int)==0)=true:=rfl
  simp only[a1,a2,UI,lI,z0,decide_true,decide_false,bJ,seval]
  exact aL rfl ⟨rfl,rfl⟩
 simp only[a1,a2,UI,decide_true,decide_false,bJ,seval]
 refine (o0 (by omega)).aB ?_
 simp only[UJ,bJ,seval]
 by_cases a3:rg < ((aM n0:Nat):Int)
 ·have UK:KZ rg n0=0:=by
   unfold KZ ES
   rw[if_neg (by rw[decide_eq_true_eq];omega)]
  have lI:=xH n1
  rw[UK]at lI
  have z0:(((0:Nat):Int)==0)=true:=rfl
  simp only[a3,UI,lI,z0,decide_true,decide_false,bJ,seval]
  exact aL rfl ⟨rfl,rfl⟩
 simp only[a3,decide_true,decide_false,bJ,seval]
 have Nl:ES rg n0=true:=by
  unfold ES
  rw[decide_eq_true_eq]
  omega
 obtain ⟨r,rfl⟩: ∃ r:Nat,rg=(r:Int):=⟨rg.toNat,by omega⟩
 have r8:8≤r:=by omega
 have r4:r≤4096:=by omega
 have rn:aM n0≤r:=by omega
 have Zz:KZ (r:Int) n0=128*r:=by
  unfold KZ
  rw[if_pos Nl,Int.toNat_natCast]
 rw[Zz]at n1
 obtain ⟨c1,WG,rfl,d1,d2,d3,d4⟩:=n1.some (by omega)
 obtain ⟨g1,g2⟩:=PI (pf:=f0) r8 rn (by omega)
 refine sj (min K (min Kc Ka)) (fun k t=> ∃ last q c gJ g st p nl pl,t=Tp ins r s1 s2 s3 s4 last q k (128*r) c gJ∧PQ ins r k last q c gJ g st p nl pl) ?_ ?_ ?_ ?_
 ·rintro k t ⟨last,q,c,gJ,g,st,p,nl,pl,rfl,_⟩
  show 10000023≤10002000
  decide
 ·refine ⟨_,⟨s1,1,c1,WG,_,0,0,n0,f0,rfl,⟨g1,g2,d4,d3,d1,GU (fun _=>⟨(by decide:(0:Int)≤0),(by decide:(0:Int) < 256)⟩) (BL WE),h1,SK,WE,Zy,by decide,by omega⟩⟩, ?_⟩
  refine GY (X:=10000003) (show 10000023≤10001000 by decide) (by decide) du hro SK h2.nm h3.nm h4.nm SK d3 ?_ ?_ ?_ ?_ ?_ ?_ ?_ ?_ ?_ (fun n hn=>e2 n (by omega)) d2<;>rfl
 ·rintro k t hk ⟨last,q,c,gJ,g,st,p,nl,pl,rfl,hI⟩
  have k1:k < K:=by omega
  have k2:k < Kc:=by omega
  have k3:k < Ka:=by omega
  have j1:(((k:Nat):Int) < (K:Int))=True:=eq_true (by omega)
  have j2:(((k:Nat):Int) < (Kc:Int))=True:=eq_true (by omega)
  have j3:(((k:Nat):Int) < (Ka:Int))=True:=eq_true (by omega)
  have l2:=h2.len
  have l3:=h3.len
  have l4:=h4.len
  unfold Tp
  simp only[l2,l3,l4,j1,j2,j3,decide_true,bJ,seval]
  obtain ⟨o2,c2,pcs,rfl,b2,p2⟩:=h2.at_ (by omega)
  obtain ⟨o3,c3,ccs,rfl,b3,p3⟩:=h3.at_ (by omega)
  obtain ⟨o4,c4,acs,rfl,b4,p4⟩:=h4.at_ (by omega)
  have UL:=p2 k k1
  obtain ⟨N5,N6,N7⟩:=p3 k k2
  obtain ⟨PT,PU,PV⟩:=p4 k k3
  have lp:dI 1 (some [Sum.inl (Sum.inl (ps k))])=some (some (I .i64 (pn k)),none):=(h2.el k k1).1.len
  simp only[b2,b3,b4,UL,N5,N6,N7,PT,PU,PV,j1,j2,j3,lp,aE,bJ,seval]
  obtain ⟨XY,ZA,WH,ZB⟩:=h2.el k k1
  obtain ⟨Vq,e6k⟩:=h3.el k k2
  obtain ⟨WI,e8k⟩:=h4.el k k3
  refine (o0 (by omega)).aB ?_
  have ew:IntKind.i64.wrap (1+((aO (pn k):Nat):Int))=((aM (pn k):Nat):Int):=(wrap_i64 _ (by omega) (by unfold aO;omega)).trans (by rw[fH];omega)
  simp only[ew,bJ,seval]
  refine dK (by kernel_rfl) [0,1,2,3,4,5,6,7,8] [9] [10] [11] [1,2] [64,65,66,67,68,69,70,71,72,73,16] (by kernel_rfl) (by kernel_rfl) (by kernel_rfl) ?_
  simp only[b2,b3,b4,UL,N5,N6,N7,PT,PU,PV,j1,j2,j3,lp,aE,bJ,seval]
  obtain ⟨Vr,PW⟩:=N3 N5 N6 N7
  obtain ⟨WJ,SL⟩:=N3 PT PU PV
  refine ⟨Vr, ?_⟩
  rw[PW]
  have up: ∀ {v:Option aG} t cs rw,ins t=some ⟨rw,cs⟩→upd ins 10001000 v t=some ⟨rw,cs⟩:=fun {v} t cs rw h=>by
   rw[aW _ _ _ _ (by have:=(du t _ h).1;omega)];exact h
  refine BN (X:=10001000) (rw:=true) (gJ:=gJ) (at_:=ca k) (cut:=cc k) (by simp only[ae,ao,vR,seval]) hI.pn hI.sh hI.cap (by omega) hI.Q6 (XY.move fun t cs rw h=>N2 (up t cs rw h)) WH (by omega) (Vq.move fun t cs rw h=>N2 (up t cs rw h)) fun v3 XZ n3 e3=> ?_
  rw[jM,ny r8 r4]at n3
  rw[jM,BK r8 r4]
  obtain ⟨cA,UM,rfl,ZC,WK,WL,Vs⟩:=n3.some (by omega)
  simp only[N4,Vp,b2,b3,b4,bJ,seval]
  have Og: ∀ n,n < 10000000→XZ n=ins n:=fun n hn=>by
   rw[e3 n (by omega)]
   show kI [1,2] (upd ins 10001000 _) n=_
   rw[Ji fun x hx=> ?_,aW _ _ _ _ (by omega)]
   rw[aW _ _ _ _ (by omega)]at hx
   exact hro n x hx
  have WM:XZ 10001000=some ⟨true,gJ⟩:=by
   rw[e3 _ (by decide)]
   show kI [1,2] (upd ins 10001000 _) 10001000=_
   simp only[eJ,seval]
  have hq1:=hI.q1
  have hq2:=hI.q2
  by_cases WN:r < aM (pn k)
  ·have hR:=GX (pf:=pf k) hI.lg hI.cl WN (by omega)
   have UN:eB (m8 (ca k) (aN g (2*r) (pn k) (pf k)))=7:=by
    rw[hR];unfold m8;rw[xI];rfl
   have WO:fq (cn k) (cb k) (cc k) g (ca k) (aN g (2*r) (pn k) (pf k))=g:=by
    rw[hR];unfold fq;rw[xI];rfl
   rw[WO]at Vs
   have jb:(((r:Nat):Int) < ((aM (pn k):Nat):Int))=True:=eq_true (by omega)
   simp only[UN,jb,decide_true,bJ,seval]
   refine Ak (n:=128*r) (f:=g) (by omega) (.inr ⟨10002028,0,cA,true,UM,rfl,by simp only[WK,eJ,seval],WL,Vs⟩) (.inr ⟨10001000,0,c,true,gJ,rfl,by simp only[WM,eJ,seval],hI.pn,hI.sh⟩) ?_
   have ek:IntKind.i64.wrap (((k:Nat):Int)+1)=((k+1:Nat):Int):=(wrap_i64 _ (by omega) (by omega)).trans (by omega)
   simp only[ek,Bool.not_true,bJ,seval]
   refine ⟨_,⟨last,q,c,gJ,g,st,p,nl,pl,rfl,hI.up⟩, ?_⟩
   refine GY (X:=10001000) (show 10000023≤10001000 by decide) (by decide) du hro SK h2.nm h3.nm h4.nm hI.ln hI.pn ?_ ?_ ?_ ?_ ?_ ?_ ?_ ?_ ?_ (fun n hn=> ?_) ?_
   any_goals rfl
   ·dsimp only
    (repeat rw[aW _ _ _ _ (by omega)])
    exact Og n hn
   ·dsimp only
    (repeat rw[aW _ _ _ _ (by decide)])
    exact WM
  ·have zk:aM (pn k)≤r:=by omega
   obtain ⟨w1,w2,w3,w4⟩:=hI.lg.append (g:=fq (cn k) (cb k) (cc k) g (ca k) (aN g (2*r) (pn k) (pf k))) (kn:=cn k) (kb:=cb k) (ct:=cc k) (at_:=ca k) (n:=pn k) (pf:=pf k) hI.cl zk (by omega) (by omega) (by omega) rfl
   have bA:cU (fq (cn k) (cb k) (cc k) g (ca k) (aN g (2*r) (pn k) (pf k))):=by
    have:=sD (n:=128*r) (at_:=ca k) (kn:=cn k) (kb:=cb k) (ct:=cc k) hI.Q6 (N1 (f:=g) (m:=2*r) (n:=pn k) WH)
    rwa [ny r8 r4]at this
   have hcd:=KK (at_:=ca k) (ct:=cc k) w3 w4
   obtain ⟨gA,WO⟩: ∃ gA,gA=fq (cn k) (cb k) (cc k) g (ca k) (aN g (2*r) (pn k) (pf k)):=⟨_,rfl⟩
   obtain ⟨cd,Sq⟩: ∃ cd,cd=eB (m8 (ca k) (aN g (2*r) (pn k) (pf k))):=⟨_,rfl⟩
   rw[← WO]at w1 w2 bA Vs
   rw[← Sq]
   have WQ:cd=0∧Whole (ca k) (cc k) (aM (pn k))∨cd=12∧0 < ca k:=by
    rcases hcd with ⟨h,h2⟩ | ⟨h,h2⟩
    ·left;exact ⟨by rw[Sq,h];rfl,h2⟩
    ·right;exact ⟨by rw[Sq,h];rfl,h2⟩
   refine cy (decide_eq_false (show ¬ (((r:Nat):Int) < ((aM (pn k):Nat):Int)) by omega)) ?_
   refine BO (fun s'=>TE ins s' 10002078 r s1 (.inr (.inr (1,o2,K,c2))) (.inr (.inr (2,o3,Kc,c3))) (.inr (.inr (3,o4,Ka,c4))) (Sl 10001000 0 (128*r) c) last q k∧s'.env 15=some (I .i64 (aM (pn k)))∧s'.env 16=some (Ptr 10002032 0)∧s'.box 10002032=some ⟨true,[Sum.inl (.int .i64 cd), .inr (.inr (10002028,0,128*r,cA))]⟩∧s'.box 10002028=some ⟨true,UM⟩) ?_ ?_
   ·have hws:fI (ca k) (cc k) ((aM (pn k):Nat):Int)=true→(!fI (ca k) (cc k) ((aM (pn k):Nat):Int))=false:=fun h=>by rw[h];rfl
    rcases WQ with ⟨rfl,hw⟩ | ⟨rfl,hpos⟩
    ·have z0:((0:Int)==0)=true:=rfl
     simp only[z0,bne_self_eq_false,Og 2 (by decide),Og 3 (by decide),b2,b3,N5,N6,N7,PW,j2,aE,bJ,seval]
     refine ⟨Vr, ?_⟩
     refine tX (X:=10001000) (rw:=true) (gJ:=gJ) (at_:=ca k) (cut:=cc k) (m:=((aM (pn k):Nat):Int)) (by simp only[WM,eJ,seval]) hI.pn (Vq.move fun t cs rw h=>⟨rw,by
      have h1:=(du t _ h).1
      dsimp only
      (repeat rw[aW _ _ _ _ (by omega)])
      rw[Og t h1];exact h⟩) ?_
     simp only[kZ.2 hw,z0,Bool.not_true,bne_self_eq_false,Og 2 (by decide),Og 3 (by decide),b2,b3,N5,N6,N7,PW,j2,aE,bJ,seval]
     refine ⟨⟨rfl,rfl,rfl,rfl,rfl,rfl,rfl,rfl,rfl,fun n hn=> ?_,rfl⟩,WK⟩
     dsimp only
     (repeat rw[aW _ _ _ _ (by omega)])
     exact Og n hn
    ·have z0:((12:Int)==0)=false:=rfl
     have z1:((12:Int)==12)=true:=rfl
     have z2:((12:Int) != 0)=true:=rfl
     have z3:(ca k≤0)=False:=eq_false (by omega)
     simp only[z0,z1,z2,z3,bne_self_eq_false,decide_false,Og 2 (by decide),Og 3 (by decide),b2,b3,N5,N6,N7,PW,j2,aE,bJ,seval]
     refine ⟨⟨rfl,rfl,rfl,rfl,rfl,rfl,rfl,rfl,rfl,fun n hn=> ?_,rfl⟩,WK⟩
     dsimp only
     (repeat rw[aW _ _ _ _ (by omega)])
     exact Og n hn
   ·rintro ⟨env,box,ZD⟩ ⟨⟨u0,u1,u2,u3,u4,Oh,BR,E0,BP,bL,un⟩,Vt,u16,bT,PX⟩
    dsimp only at u0 u1 u2 u3 u4 Oh BR E0 BP Vt u16 bL un bT PX
    subst un
    have hb2:=(bL 2 (by decide)).trans b3
    have hb1:=(bL 1 (by decide)).trans b2
    refine BO (fun s'=> ∃ nx last' q' st' p' nl' KX,(nx=10002084∨nx=10002092)∧TE ins s' nx r s1 (.inr (.inr (1,o2,K,c2))) (.inr (.inr (2,o3,Kc,c3))) (.inr (.inr (3,o4,Ka,c4))) (Sl 10001000 0 (128*r) c) last' q' k∧TL ins r gA last' q' (2+2*(k:Int)) st' p' nl' KX∧s'.env 16=some (Ptr 10002032 0)∧s'.box 10002032=some ⟨true,[Sum.inl (.int .i64 cd), .inr (.inr (10002028,0,128*r,cA))]⟩∧s'.box 10002028=some ⟨true,UM⟩) ?_ ?_
    ·simp only[u0,u1,u2,u3,u4,Oh,BR,E0,BP,Vt,u16,hb1,hb2,N5,N6,N7,UL,PW,j1,j2,aE,bJ,seval]
     refine ⟨Vr, ?_⟩
     refine tX (X:=10002028) (rw:=true) (gJ:=UM) (at_:=ca k) (cut:=cc k) (m:=((aM (pn k):Nat):Int)) PX WL (Vq.move fun t cs rw h=>⟨rw,by
      exact (bL t (du t _ h).1).trans h⟩) ?_
     cases Sr:fI (ca k) (cc k) ((aM (pn k):Nat):Int)
     ·have WR: ¬ Whole (ca k) (cc k) (aM (pn k)):=fun h=>by rw[kZ.2 h]at Sr;cases Sr
      simp only[u0,u1,u2,u3,u4,Oh,BR,E0,BP,Vt,u16,hb1,hb2,N5,N6,N7,UL,PW,j1,j2,aE,bJ,seval]
      exact ⟨_,last,q,st,p,nl,pl, .inl rfl,⟨u0,u1,u2,u3,u4,Oh,BR,E0,BP,bL,rfl⟩,⟨w2 WR,hI.la,hI.ln,hI.lb,hI.lm,hq1,by omega⟩,bT,PX⟩
     ·have hw:=kZ.1 Sr
      obtain ⟨st',p',ZE⟩:=w1 hw
      have eq1:IntKind.u64.wrap (q+1)=q+1:=by rw[wrap_u64];omega
      simp only[eq1,u0,u1,u2,u3,u4,Oh,BR,E0,BP,Vt,u16,hb1,hb2,N5,N6,N7,UL,PW,j1,j2,aE,bJ,seval]
      exact ⟨_,ps k,q+1,st',p',pn k,pf k, .inr rfl,⟨u0,u1,u2,u3,u4,Oh,rfl,rfl,BP,bL,rfl⟩,⟨ZE,XY,ZA,WH,ZB,by omega,by omega⟩,bT,PX⟩
    ·rintro ⟨env,box,ZD⟩ ⟨nx,last',q',st',p',nl',KX,uk,⟨u0,u1,u2,u3,u4,Oh,BR,E0,BP,bL,un⟩,hT,u16,bT,PX⟩
     dsimp only at u0 u1 u2 u3 u4 Oh BR E0 BP u16 bL un bT PX
     subst un
     have X0:=(bL 3 (by decide)).trans b4
     have tq1:=hT.q1
     have tq2:=hT.q2
     have tlm:=hT.lm
     have KN: ∀ {bx:Nat→Option aG},(∀ n,n < 10000000→bx n=ins n)→ ∀ t cs rw,ins t=some ⟨rw,cs⟩→ ∃ rw',bx t=some ⟨rw',cs⟩:=fun {bx} hb t cs rw h=>⟨rw,(hb t (du t _ h).1).trans h⟩
     have PY: ∀ {dm:List Nat} {bx:Nat→Option aG},(∀ n,n < 10000000→bx n=ins n)→ ∀ n,n < 10000000→kI dm bx n=ins n:=fun {dm bx} hb n hn=>by
      rw[Ji fun x hx=> ?_]
      ·exact hb n hn
      ·rw[hb n hn]at hx
       exact hro n x hx
     obtain ⟨gS,WS⟩: ∃ gS,gS=xF (an k) (ab k) (ac k) gA (128*r) (aa k):=⟨_,rfl⟩
     obtain ⟨WT,hS2,X1⟩:=hT.lg.settle (g:=gS) (kn:=an k) (kb:=ab k) (ct:=ac k) (at_:=aa k) (UF:=0) (kb':=fun _=>false) (UG:=0) (by rw[WS];unfold xF;rw[ny r8 r4,ny r8 r4,jM])
     have Vu:cU gS:=by rw[WS];exact EZ bA
     have ZF:=WT.mount X1 r8 r4
     rcases uk with rfl | rfl
     all_goals
      simp only[u0,u1,u2,u3,u4,Oh,BR,E0,BP,u16,bT,PX,hb1,hb2,X0,PT,PU,PV,SL,j1,j2,j3,aE,bJ,seval]
      refine dK (by kernel_rfl) [0,1,2,3,4,5] [6] [] [7] [10002032,3] [134,135,136,137,138,139,140,11] (by kernel_rfl) (by kernel_rfl) (by kernel_rfl) ?_
      simp only[u0,u1,u2,u3,u4,Oh,BR,E0,BP,u16,bT,PX,hb1,hb2,X0,PT,PU,PV,SL,j1,j2,j3,aE,bJ,seval]
      refine ⟨WJ, ?_⟩
      refine pJ (X:=10002028) (rw:=true) (gJ:=UM) (at_:=aa k) (cut:=ac k) (by simp only[PX,eJ,seval]) WL Vs ZC (by omega) (by omega) bA (WI.move (KN (PY bL))) fun v5 ZG n5 e5=> ?_
      rw[← WS]at n5
      obtain ⟨cS,WU,rfl,X2,WV,X3,X4⟩:=n5.some (by omega)
      have SM: ∀ n,n < 10000000→ZG n=ins n:=fun n hn=>(e5 n (by omega)).trans (PY bL n hn)
      simp only[u0,u1,u2,u3,u4,BR,E0,BP,u16,bJ,seval]
      refine jH (rw:=true) (gJ:=WU) WV X3 X4 X2 (by omega) Vu (hT.la.move (KN SM)) ZF (fun i hi=>WT.NK i hi) (by omega) ?_
      simp only[u0,u1,u2,u3,u4,BR,E0,BP,u16,bJ,seval]
      refine cy rfl ?_
      have UO:IntKind.i64.wrap (1+((aO nl':Nat):Int))=((aM nl':Nat):Int):=(wrap_i64 _ (by omega) (by unfold aO;omega)).trans (by rw[fH];omega)
      refine BO (fun s'=> ∃ nx nS q2,(nx=10002110∨nx=10002113∨nx=10002118∨nx=10002121)∧(10000000≤nS∧nS < 10002100)∧TE ins s' nx r s1 (.inr (.inr (1,o2,K,c2))) (.inr (.inr (2,o3,Kc,c3))) (.inr (.inr (3,o4,Ka,c4))) (Sl nS 0 (128*r) cS) last' q2 k∧s'.box nS=some ⟨true,WU⟩∧(Whole (aa k) (ac k) (aM nl')∧q2=q'+1∨ ¬ Whole (aa k) (ac k) (aM nl')∧q2=q')) ?_ ?_
      ·simp only[u0,u1,u2,u3,u4,BR,E0,BP,u16,SM 3 (by decide),b4,PT,PU,PV,SL,j1,j2,j3,aE,bJ,seval]
       refine .inl ?_
       simp only[u0,u1,u2,u3,u4,BR,E0,BP,u16,hT.la.len,SM 3 (by decide),b4,PT,PU,PV,SL,j1,j2,j3,aE,bJ,seval]
       refine ⟨by kernel_rfl,WJ, ?_⟩
       refine (o0 (by omega)).draw Tryd.rX ?_
       simp only[UO,u0,u1,u2,u3,u4,BR,E0,BP,u16,bJ,seval]
       refine GV (at_:=aa k) (cut:=ac k) (m:=((aM nl':Nat):Int)) (WI.move (KN SM)) ?_
       cases Sr:fI (aa k) (ac k) ((aM nl':Nat):Int)
       ·have WR: ¬ Whole (aa k) (ac k) (aM nl'):=fun h=>by rw[kZ.2 h]at Sr;cases Sr
        simp only[u0,u1,u2,u3,u4,BR,E0,BP,u16,bJ,seval]
        refine ⟨_,_,_, ?_, ?_,⟨u0,u1,u2,u3,u4,rfl,BR,E0,BP,SM,rfl⟩,WV, .inr ⟨WR,rfl⟩⟩<;>first | decide | exact .inl rfl | exact .inr (.inl rfl) | exact .inr (.inr (.inl rfl)) | exact .inr (.inr (.inr rfl))
       ·have hw:=kZ.1 Sr
        have ZH:IntKind.u64.wrap (q'+1)=q'+1:=by rw[wrap_u64];omega
        simp only[ZH,u0,u1,u2,u3,u4,BR,E0,BP,u16,bJ,seval]
        refine ⟨_,_,_, ?_, ?_,⟨u0,u1,u2,u3,u4,rfl,BR,rfl,BP,SM,rfl⟩,WV, .inl ⟨hw,rfl⟩⟩<;>first | decide | exact .inl rfl | exact .inr (.inl rfl) | exact .inr (.inr (.inl rfl)) | exact .inr (.inr (.inr rfl))
      ·rintro ⟨ZI,WW,ZJ⟩ ⟨nx6,nS,q2,WX,hnS,⟨y0,y1,y2,y3,y4,WY,Ss,Sv,SN,UQ,yn⟩,X5,hq2⟩
       dsimp only at y0 y1 y2 y3 y4 WY Ss Sv SN UQ yn X5
       subst yn
       have X6:=(UQ 2 (by decide)).trans b3
       have X7:=(UQ 3 (by decide)).trans b4
       obtain ⟨gC,WZ⟩: ∃ gC,gC=fq (an k) (ab k) (ac k) gS (aa k) (bE gS (2*r)):=⟨_,rfl⟩
       obtain ⟨W3,ZK⟩:=WT.compact X1 (by omega) (by omega) (by omega) WZ
       obtain ⟨W4,p2',ZL⟩: ∃ W4 p2',Lg gC r W4 p2' q2 nl' KX:=by
        rcases hq2 with ⟨h,rfl⟩ | ⟨h,rfl⟩
        ·exact ⟨_,_,(W3 h).1⟩
        ·exact ⟨_,_,ZK h⟩
       have W5:1≤q2∧q2≤q'+1:=by
        rcases hq2 with ⟨h,rfl⟩ | ⟨h,rfl⟩<;>omega
       have X8:cU gC:=by
        have:=sD (n:=128*r) (at_:=aa k) (kn:=an k) (kb:=ab k) (ct:=ac k) Vu (Al (m:=2*r) Vu)
        rw[ny r8 r4]at this
        rw[WZ];exact this
       obtain ⟨gD,W6⟩: ∃ gD,gD=xF (cn k) (cb k) (cc k) gC (128*r) (ca k):=⟨_,rfl⟩
       obtain ⟨hD1,hD2,hD3⟩:=ZL.settle (g:=gD) (kn:=cn k) (kb:=cb k) (ct:=cc k) (at_:=ca k) (UF:=0) (kb':=fun _=>false) (UG:=0) (by rw[W6];unfold xF;rw[ny r8 r4,ny r8 r4,jM])
       have X9:cU gD:=by rw[W6];exact EZ X8
       have ZM:=hD1.mount hD3 r8 r4
       rcases WX with rfl | rfl | rfl | rfl
       all_goals
        simp only[y0,y1,y2,y3,y4,WY,Ss,Sv,SN,X6,X7,N5,N6,N7,PW,PT,PU,PV,SL,j1,j2,j3,aE,bJ,seval]
        refine J1 (by kernel_rfl) [0,1,2,3,4,7,8,9,10] [5,6,11] [] [12] [3,2] [157,158,159,160,161,164,165,166,167,162,163,168] (by kernel_rfl) (by kernel_rfl) (by kernel_rfl) ?_
        simp only[y0,y1,y2,y3,y4,WY,Ss,Sv,SN,X6,X7,N5,N6,N7,PW,PT,PU,PV,SL,j1,j2,j3,aE,bJ,seval]
        refine ⟨WJ,Vr, ?_⟩
        refine yj (X:=nS) (rw:=true) (gJ:=WU) (at_:=aa k) (cut:=ac k) ?_ X3 X4 X2 (by omega) Vu (WI.move (KN (PY UQ))) fun v7 ZN n7 e7=> ?_
        ·show kI [3,2] WW nS=_
         unfold kI
         rw[if_neg (by simp only[List.contains_eq_mem,cz,decide_eq_true_eq];omega)]
         exact X5
        rw[jM,ny r8 r4, ← WZ]at n7
        obtain ⟨cC,ZO,rfl,ZP,ZQ,ZR,ZS⟩:=n7.some (by omega)
        have Ya: ∀ n,n < 10000000→ZN n=ins n:=fun n hn=>(e7 n (by omega)).trans (PY UQ n hn)
        simp only[y0,y1,y2,y3,y4,Ss,Sv,SN,bJ,seval]
        refine pJ (rw:=true) (gJ:=ZO) (at_:=ca k) (cut:=cc k) ZQ ZR ZS ZP (by omega) (by omega) X8 (Vq.move (KN Ya)) fun v8 ZT n8 e8=> ?_
        rw[← W6]at n8
        obtain ⟨cD,Yb,rfl,Yc,Yd,W7,Ye⟩:=n8.some (by omega)
        have Yf: ∀ n,n < 10000000→ZT n=ins n:=fun n hn=>(e8 n (by omega)).trans (Ya n hn)
        simp only[y0,y1,y2,y3,y4,Ss,Sv,SN,bJ,seval]
        refine jH (rw:=true) (gJ:=Yb) Yd W7 Ye Yc (by omega) X9 (hT.la.move (KN Yf)) ZM (fun i hi=>hD1.NK i hi) (by omega) ?_
        have ek:IntKind.i64.wrap (((k:Nat):Int)+1)=((k+1:Nat):Int):=(wrap_i64 _ (by omega) (by omega)).trans (by omega)
        simp only[ek,Bool.not_true,y0,y1,y2,y3,y4,Ss,Sv,SN,bJ,seval]
        refine ⟨_,⟨last',q2,cD,Yb,gD,W4,p2',nl',KX,rfl,⟨hD1,hD3,Ye,W7,Yc,X9,hT.la,hT.ln,hT.lb,hT.lm,W5.1,by omega⟩⟩, ?_⟩
        refine GY (show 10000023≤10001000 by decide) ?_ du hro SK h2.nm h3.nm h4.nm hT.ln W7 y0 y1 y2 y3 y4 rfl Ss Sv rfl Yf Yd
        all_goals decide
 ·rintro t ⟨last,q,c,gJ,g,st,p,nl,pl,rfl,hI⟩
  obtain ⟨k,ZU⟩: ∃ k,k=min K (min Kc Ka):=⟨_,rfl⟩
  rw[← ZU]at hI ⊢
  have hq1:=hI.q1
  have hq2:=hI.q2
  have hlm:=hI.lm
  have l2:=h2.len
  have l3:=h3.len
  have l4:=h4.len
  have wz:Whole 0 0 (aM nl):= .inl (Int.le_refl 0)
  obtain ⟨gE,SQ⟩: ∃ gE,gE=fq 0 (fun _=>false) 0 g 0 (bE g (2*r)):=⟨_,rfl⟩
  obtain ⟨W3,_⟩:=hI.lg.compact hI.cl (by omega) (by omega) (by omega) SQ
  obtain ⟨TW,Yg⟩:=W3 wz
  have Yh:=hI.lg.tidy hI.cl (by omega) (Int.le_refl 0) SQ
  rw[← Yg]at Yh
  have Sw:=TW.mount Yh r8 r4
  rw[Yg]at Sw
  have SR:cU gE:=by
   have:=sD (n:=128*r) (at_:=0) (kn:=0) (kb:=fun _=>false) (ct:=0) hI.Q6 (Al (m:=2*r) hI.Q6)
   rw[ny r8 r4]at this
   rw[SQ];exact this
  have W8:eB (m8 0 (bE g (2*r)))=0:=by
   rw[hI.lg.bE hI.cl (by omega)]
   unfold m8 bk
   rw[if_neg (by rw[decide_eq_true_eq];omega)]
   rfl
  have eq1:IntKind.u64.wrap (q+1)=q+1:=by rw[wrap_u64];omega
  have UO:IntKind.i64.wrap (1+((aO nl:Nat):Int))=((aM nl:Nat):Int):=(wrap_i64 _ (by omega) (by unfold aO;omega)).trans (by rw[fH];omega)
  have W9:(((r - st+aM nl - (r - st):Nat):Int)==((aM nl:Nat):Int))=true:=by
   rw[show r - st+aM nl - (r - st)=aM nl by omega]
   exact beq_self_eq_true _
  have ZV:(((k:Nat):Int) < (K:Int))=False∨(((k:Nat):Int) < (K:Int))=True∧((((k:Nat):Int) < (Kc:Int))=False∨(((k:Nat):Int) < (Kc:Int))=True∧(((k:Nat):Int) < (Ka:Int))=False):=by
   by_cases q1:k < K
   ·right
    refine ⟨eq_true (by omega), ?_⟩
    by_cases q2:k < Kc
    ·right
     exact ⟨eq_true (by omega),eq_false (by omega)⟩
    ·left
     exact eq_false (by omega)
   ·left
    exact eq_false (by omega)
  unfold Tp
  rcases ZV with j1 | ⟨j1,j2 | ⟨j2,j3⟩⟩
  ·simp only[l2,l3,l4,PS,j1,decide_true,decide_false,bJ,seval]
   refine lP (X:=10001000) (rw:=true) (gJ:=gJ) (at_:=0) (cut:=0) (ks:= .inl (.slice none 0 0)) (kn:=0) (kb:=fun _=>false) (by simp only[eJ,seval]) hI.pn hI.sh hI.cap (by omega) hI.Q6 (.inl ⟨⟨none,rfl⟩,rfl⟩) fun v9 UR n9 e9=> ?_
   rw[jM,ny r8 r4, ← SQ]at n9
   rw[jM,BK r8 r4,W8]
   obtain ⟨cE,US,rfl,Q7,Q8,N8,Q9⟩:=n9.some (by omega)
   have z0:((0:Int)==0)=true:=rfl
   have UT: ∀ n,n < 10000000→UR n=ins n:=fun n hn=>(e9 n (by omega)).trans (aW _ _ _ _ (by omega))
   simp only[N4,Vp,z0,eq1,l2,l3,l4,bJ,seval]
   refine jH (q:=q+1) (rw:=true) (gJ:=US) (by simp only[Q8,eJ,seval]) N8 Q9 Q7 (by omega) SR (hI.la.move fun t cs rw h=>⟨rw,by
    have h1:=(du t _ h).1
    dsimp only
    (repeat rw[aW _ _ _ _ (by omega)])
    rw[UT t h1];exact h⟩) Sw (fun i hi=>TW.NK i hi) (by omega) ?_
   simp only[hI.la.len,bJ,seval]
   refine nh (uB Q9 Q7 N8 (by omega) SR) (r:=fun _=>10002018) (dU (rw:=true) (by simp only[Q8,eJ,seval]) N8) rfl fun vM Yi nM eM=> ?_
   rw[Sw]at nM ⊢
   simp only[SJ,ui,hI.la.len,cQ,bJ,seval]
   refine (o0 (by omega)).aB ?_
   simp only[UO,W9,bJ,seval]
   exact aL rfl ⟨rfl,rfl⟩
  ·simp only[l2,l3,l4,PS,j1,j2,decide_true,decide_false,bJ,seval]
   refine lP (X:=10001000) (rw:=true) (gJ:=gJ) (at_:=0) (cut:=0) (ks:= .inl (.slice none 0 0)) (kn:=0) (kb:=fun _=>false) (by simp only[eJ,seval]) hI.pn hI.sh hI.cap (by omega) hI.Q6 (.inl ⟨⟨none,rfl⟩,rfl⟩) fun v9 UR n9 e9=> ?_
   rw[jM,ny r8 r4, ← SQ]at n9
   rw[jM,BK r8 r4,W8]
   obtain ⟨cE,US,rfl,Q7,Q8,N8,Q9⟩:=n9.some (by omega)
   have z0:((0:Int)==0)=true:=rfl
   have UT: ∀ n,n < 10000000→UR n=ins n:=fun n hn=>(e9 n (by omega)).trans (aW _ _ _ _ (by omega))
   simp only[N4,Vp,z0,eq1,l2,l3,l4,bJ,seval]
   refine jH (q:=q+1) (rw:=true) (gJ:=US) (by simp only[Q8,eJ,seval]) N8 Q9 Q7 (by omega) SR (hI.la.move fun t cs rw h=>⟨rw,by
    have h1:=(du t _ h).1
    dsimp only
    (repeat rw[aW _ _ _ _ (by omega)])
    rw[UT t h1];exact h⟩) Sw (fun i hi=>TW.NK i hi) (by omega) ?_
   simp only[hI.la.len,bJ,seval]
   refine nh (uB Q9 Q7 N8 (by omega) SR) (r:=fun _=>10002018) (dU (rw:=true) (by simp only[Q8,eJ,seval]) N8) rfl fun vM Yi nM eM=> ?_
   rw[Sw]at nM ⊢
   simp only[SJ,ui,hI.la.len,cQ,bJ,seval]
   refine (o0 (by omega)).aB ?_
   simp only[UO,W9,bJ,seval]
   exact aL rfl ⟨rfl,rfl⟩
  ·simp only[l2,l3,l4,PS,j1,j2,j3,decide_true,decide_false,bJ,seval]
   refine lP (X:=10001000) (rw:=true) (gJ:=gJ) (at_:=0) (cut:=0) (ks:= .inl (.slice none 0 0)) (kn:=0) (kb:=fun _=>false) (by simp only[eJ,seval]) hI.pn hI.sh hI.cap (by omega) hI.Q6 (.inl ⟨⟨none,rfl⟩,rfl⟩) fun v9 UR n9 e9=> ?_
   rw[jM,ny r8 r4, ← SQ]at n9
   rw[jM,BK r8 r4,W8]
   obtain ⟨cE,US,rfl,Q7,Q8,N8,Q9⟩:=n9.some (by omega)
   have z0:((0:Int)==0)=true:=rfl
   have UT: ∀ n,n < 10000000→UR n=ins n:=fun n hn=>(e9 n (by omega)).trans (aW _ _ _ _ (by omega))
   simp only[N4,Vp,z0,eq1,l2,l3,l4,bJ,seval]
   refine jH (q:=q+1) (rw:=true) (gJ:=US) (by simp only[Q8,eJ,seval]) N8 Q9 Q7 (by omega) SR (hI.la.move fun t cs rw h=>⟨rw,by
    have h1:=(du t _ h).1
    dsimp only
    (repeat rw[aW _ _ _ _ (by omega)])
    rw[UT t h1];exact h⟩) Sw (fun i hi=>TW.NK i hi) (by omega) ?_
   simp only[hI.la.len,bJ,seval]
   refine nh (uB Q9 Q7 N8 (by omega) SR) (r:=fun _=>10002018) (dU (rw:=true) (by simp only[Q8,eJ,seval]) N8) rfl fun vM Yi nM eM=> ?_
   rw[Sw]at nM ⊢
   simp only[SJ,ui,hI.la.len,cQ,bJ,seval]
   refine (o0 (by omega)).aB ?_
   simp only[UO,W9,bJ,seval]
   exact aL rfl ⟨rfl,rfl⟩
end
end Go.Proofs.YtkaamnnjeandlaaDoor
