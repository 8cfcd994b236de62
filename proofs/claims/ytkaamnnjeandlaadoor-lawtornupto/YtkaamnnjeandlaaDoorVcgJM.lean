/-
  Sectors wiped: a write of zeros at each place, a flush.
-/
import Derived.Test.YtkaamnnjeandlaaDoorVcgJF
import Derived.Test.YtkaamnnjeandlaaDoorVcgWM
import Derived.Test.YtkaamnnjeandlaaDoorVcgBk
import Derived.Test.YtkaamnnjeandlaaDoorVcgWX
set_option maxHeartbeats 8000000
set_option maxRecDepth 20000
set_option linter.unusedSimpArgs false
set_option linter.unusedVariables false
set_option linter.unusedSectionVars false
namespace Go.Proofs.YtkaamnnjeandlaaDoor
open Go.bM
variable [aV]
def zF:Nat→Int:=fun _=>0
theorem jE:(List.replicate 64 (Sum.inl (Value.int .u8 0)):List SV)=aA .u8 64 zF:=rfl
def zL (A:List Nat):List Pd:=A.map fun a=>(a,zF)
theorem wZ {A:List Nat}:(zL A).length=A.length:=by simp[zL]
theorem QN {A:List Nat} {j a:Nat} (h:A[j]? =some a):(zL A)[j]? =some (a,zF):=by simp[zL,h]
theorem Nd {A:List Nat} {m:Nat} (h: ∀ a ∈ A,a < m):Fit m (zL A):=fun p hp=>by
 simp only[zL,List.mem_map]at hp
 obtain ⟨a,ha,rfl⟩:=hp
 exact h a ha
def qI (f:Nat→Int) (A:List Nat):Nat→Int:=eh f (zL A)
def jv (f:Nat→Int) (A:List Nat) (kn:Nat) (kb:Nat→Bool) (cut T:Nat):Nat→Int:=fF (eh f (cZ kn kb 0 ((zL A).take T))) (A.getD T 0) cut zF
def yc (N c k:Nat):List (Nat×AV):=[(2,Ptr 7 0),(9,Sl 6 0 N c),(10,I .i64 N),(11,I .i64 k)]
def Bq (ps:List SV):List (Nat×aG):=[(6,⟨false,ps⟩),(7,⟨true,eE 0 1 2 3⟩)]
theorem Nf {N c k q:Nat}: ∀ x ∈ yc N c k,AV.ren (upd (fun n=>n) 60 q) x.2=x.2∧AV.ok (fun n=>n < 61) x.2:=fun x hx=>by
 simp only[yc,cz]at hx
 rcases hx with rfl | rfl | rfl | rfl
 ·exact ⟨rfl,(by decide:7 < 61)⟩
 ·exact ⟨rfl,(by decide:6 < 61)⟩
 ·exact ⟨rfl,trivial⟩
 ·exact ⟨rfl,trivial⟩
theorem Ng {ps:List SV} (hp:ps.all SV.plain=true): ∀ x ∈ Bq ps,(5 < x.1∧x.1 < 60)∧ ∀ y ∈ x.2.cells,SV.ok (fun n=>n < 60) y:=fun x hx=>by
 simp only[Bq,cz]at hx
 rcases hx with rfl | rfl
 ·exact ⟨⟨(by decide:5 < 6),(by decide:6 < 60)⟩,ai hp⟩
 ·exact ⟨⟨(by decide:5 < 7),(by decide:7 < 60)⟩,dg fun n hn=>by omega⟩
theorem Nh {m c0 kn:Nat} {kb:Nat→Bool} {f:Nat→Int} {A:List Nat} {ks:SV} {kc ps:List SV} {at_ cut cnt:Int} (hk:fR ks kn kb kc) (hl:eU ps A c0) (hA: ∀ a ∈ A,a < m) (hne:A≠[]) (hm:m≤8192) (hn:A.length≤8192) (h0:0≤cnt) (h1:cnt < 900000):
  ∀ c,Tryd.f54.body=some c→iX Tryd.prog [] [5] c (dw Tryd.prog [] 7 (bk at_ cnt A.length) eR (fun v out=>v=Sum.inr []∧out=lk (cr m (qI f A) (cnt+A.length)))
   (fun out=>out=lk (cr m (jv f A kn kb (dO cut) (at_ - cnt - 1).toNat) at_))) (bM.start [Ag (eE 0 1 2 3),Sl 6 0 A.length c0] (lk (xP m f (cL at_ cut ks) kc cnt ps)) 7):=by
 intro c hc
 cases hc
 have hp:=hl.plain
 have dP: ∀ {M:Nat→Prop},(∀ x ∈ ps,SV.ok M x)=True:=eq_true (ai hp)
 have RT: ∀ {M:Nat→Prop},M 5→ ∀ x ∈ cL at_ cut ks,SV.ok M x:=fun h5 x hx=>SV.aI (fun n hn=>by subst hn;exact h5) (dW hk x hx)
 have hN:0 < A.length:=List.length_pos_iff.2 hne
 have hz:((A.length:Int)==0)=false:=by simpa using hne
 simp only[xP,hz,aQ,bm,ao,aq,bq,aS,dP,vR,seval]
 have hW: ∀ k:Nat,k < A.length→cnt+(k:Int)+1=at_→bk at_ cnt A.length=true:=fun k hk h=>decide_eq_true (by omega)
 have RU: ∀ {s:AS} {G:Nat→Int},bk at_ cnt A.length=true→s.box 2=some ⟨true,[Sum.inl (.slice none 0 0)]⟩→s.box 3=some ⟨true,[Sum.inl (.int .i64 at_)]⟩→s.box 4=some ⟨true,aA .u8 (64*m) G⟩→G=jv f A kn kb (dO cut) (at_ - cnt - 1).toNat→
   dw Tryd.prog [] 7 (bk at_ cnt A.length) eR (fun v out=>v=Sum.inr []∧out=lk (cr m (qI f A) (cnt+A.length))) (fun out=>out=lk (cr m (jv f A kn kb (dO cut) (at_ - cnt - 1).toNat) at_)) (.panic eR) s:=fun {s G} hf h2 h3 h4 e=>by
  subst e
  unfold dw
  rw[if_pos hf]
  exact uw (by decide) h2 h3 h4
 refine sj A.length (fun k t=> ¬ (cnt < at_∧at_≤cnt+k)∧((k=0∧t=nX (yc A.length c0 k) ([(0,⟨false,[Sum.inr (.inr (4,0,m,m))]⟩),(1,⟨false,cL at_ cut ks⟩),(2,⟨true,[Sum.inl (.slice none 0 0)]⟩),(3,⟨true,[Sum.inl (.int .i64 (cnt+k))]⟩),(4,⟨true,aA .u8 (64*m) f⟩),(5,⟨false,kc⟩),(6,⟨false,ps⟩),(7,⟨true,eE 0 1 2 3⟩)]) 61)∨
  (0 < k∧ ∃ c es,fb es ((zL A).take k) c∧t=nX (yc A.length c0 k) (E9 m f (cL at_ cut ks) kc (cnt+k) k c es (Bq ps)) 61))) ?_ ?_ ?_ ?_
 ·rintro k t ⟨_,⟨_,rfl⟩ | ⟨_,_,_,_,rfl⟩⟩<;>(show (14:Nat)≤61;decide)
 ·refine ⟨_,⟨by omega, .inl ⟨rfl,rfl⟩⟩,dx.nC ?_⟩
  simp only[yc,Int.add_zero,aQ,dP,vR,seval]
  exact ⟨⟨(by decide:4 < 61),rfl⟩,RT (by decide),⟨trivial,rfl⟩,ai hk.c,dg fun n hn=>by omega⟩
 ·rintro k t hk2 ⟨hs,hI⟩
  obtain ⟨a,ha⟩: ∃ a,A[k]? =some a:=⟨_,List.getElem?_eq_getElem hk2⟩
  have XH:a < m:=hA a (List.mem_of_getElem? ha)
  have Ui:=QN ha
  have tN:((zL A).take k).length=k:=by rw[List.length_take,wZ];omega
  have e1:ps[k]? =some (Sum.inl (.int .i64 (a:Int))):=hl.get ha
  have e2:(k+1≤ps.length)=True:=eq_true (List.getElem?_eq_some_iff.1 e1).1
  have e5:(at_ - cnt - 1).toNat=k→fF (eh f (cZ kn kb 0 ((zL A).take k))) a (dO cut) zF=jv f A kn kb (dO cut) (at_ - cnt - 1).toNat:=fun e=>by
   unfold jv
   rw[e,show A.getD k 0=a by rw[List.getD_eq_getElem?_getD,ha];rfl]
  have qP: ¬ (cnt < at_∧at_≤cnt+k)→cnt+k+1≠at_→ ¬ (cnt < at_∧at_≤cnt+(k+1:Nat)):=fun h h2=>by omega
  have c1:cnt+(k:Int)+1=cnt+((k+1:Nat):Int):=by omega
  have Lk: ∀ {j:Nat},j=0→(zL A).take j=[]:=fun h=>by rw[h];rfl
  rcases hI with ⟨qG,rfl⟩ | ⟨qG,c,es,hg,rfl⟩
  ·by_cases lj:cnt+k+1=at_
   ·simp only[yc,Bq,E9,aE,aJ hk2,decide_true,e1,e2,jE,bQ k (by omega),aQ,bm,ao,aq,bq,aS,dP,vR,seval]
    refine .inr ⟨by kernel_rfl, ?_⟩
    simp only[yc,Bq,E9,aE,aJ hk2,decide_true,e1,e2,jE,bQ k (by omega),aQ,bm,ao,aq,bq,aS,dP,vR,seval]
    refine m7 (m:=m) (f:=f) (kc:=kc) (cut:=cut) (at_:=at_) (cnt:=cnt+k) ⟨?_, ?_, ?_, ?_, ?_, ?_⟩ hk (by omega) (by omega) (by omega) XH lj ?_<;>try (simp only[ao,aq,vR,seval];done)
    simp only[eD,fa]
    refine RU (G:=fF f a (dO cut) zF) (hW k hk2 lj) ?_ ?_ ?_ ?_
    ·simp only[ae,vR,seval]
    ·simp only[lj,ae,vR,seval]
    ·simp only[ae,vR,seval]
    ·rw[← e5 (by omega),Lk qG]
     rfl
   ·simp only[yc,Bq,E9,aE,aJ hk2,decide_true,e1,e2,jE,bQ k (by omega),aQ,bm,ao,aq,bq,aS,dP,vR,seval]
    refine .inl ?_
    refine tL (m:=m) (f:=f) (kc:=kc) (cut:=cut) (at_:=at_) (cnt:=cnt+k) ⟨?_, ?_, ?_, ?_, ?_, ?_⟩ hk (by omega) (by omega) lj fun c es hg=> ?_
    all_goals try (simp only[ao,aq,vR,seval];done)
    simp only[yc,Bq,E9,aE,aJ hk2,decide_true,e1,e2,jE,bQ k (by omega),aQ,bm,ao,aq,bq,aS,dP,vR,seval]
    refine ⟨_,⟨qP hs lj, .inr ⟨by omega,c,es, ?_,rfl⟩⟩, ?_⟩
    ·rw[take_succ Ui]
     rw[Lk qG];exact hg
    ·refine zX (m':=14) (q:=69) (by decide) (by decide) ?_ Nf (RT (by decide)) hk.c hg.shows.plain ?_ (Ng hp) ?_ ?_ ?_ ?_ ?_ ?_ ?_
     ·simp only[yc,Bq,E8,seval]
     ·simp only[yc,Bq,E8,seval]
     all_goals (try subst qG);(try simp only[tN,c1,yc,Bq,E8,seval]);(try simp only[Int.add_zero])
  ·by_cases lj:cnt+k+1=at_
   ·simp only[yc,Bq,E9,aE,aJ hk2,decide_true,e1,e2,jE,bQ k (by omega),aQ,bm,ao,aq,bq,aS,dP,vR,seval]
    refine .inr ⟨by kernel_rfl, ?_⟩
    simp only[yc,Bq,E9,aE,aJ hk2,decide_true,e1,e2,jE,bQ k (by omega),aQ,bm,ao,aq,bq,aS,dP,vR,seval]
    refine wW (m:=m) (f:=f) (kc:=kc) (cut:=cut) (at_:=at_) (cnt:=cnt+k) (L:=(zL A).take k) (w:=60) (c0:=c) (wc:=es) ⟨?_, ?_, ?_, ?_, ?_, ?_⟩ ?_ (by decide) hg (fun h=>by rw[h]at tN;simp at tN;omega) (by rw[tN];omega) (Eh (Nd hA)) hk (by omega) (by omega) (by omega) XH lj ?_<;>try (simp only[tN,ao,aq,vR,seval];done)
    simp only[eD,fa]
    refine RU (G:=fF (eh f (cZ kn kb 0 ((zL A).take k))) a (dO cut) zF) (hW k hk2 lj) ?_ ?_ ?_ ?_
    ·simp only[ae,vR,seval]
    ·simp only[lj,ae,vR,seval]
    ·simp only[ae,vR,seval]
    ·exact e5 (by omega)
   ·simp only[yc,Bq,E9,aE,aJ hk2,decide_true,e1,e2,jE,bQ k (by omega),aQ,bm,ao,aq,bq,aS,dP,vR,seval]
    refine .inl ?_
    refine tM (m:=m) (f:=f) (kc:=kc) (cut:=cut) (at_:=at_) (cnt:=cnt+k) (L:=(zL A).take k) (w:=60) (c0:=c) (wc:=es) ⟨?_, ?_, ?_, ?_, ?_, ?_⟩ ?_ (by decide) hg (fun h=>by rw[h]at tN;simp at tN;omega) (by rw[tN];omega) hk (by omega) (by omega) lj fun c' es' hg'=> ?_
    all_goals try (simp only[tN,ao,aq,vR,seval];done)
    simp only[yc,Bq,E9,aE,aJ hk2,decide_true,e1,e2,jE,bQ k (by omega),aQ,bm,ao,aq,bq,aS,dP,vR,seval]
    refine ⟨_,⟨qP hs lj, .inr ⟨by omega,c',es', ?_,rfl⟩⟩, ?_⟩
    ·rw[take_succ Ui]
     exact hg'
    ·refine zX (m':=14) (q:=69) (by decide) (by decide) ?_ Nf (RT (by decide)) hk.c hg'.shows.plain ?_ (Ng hp) ?_ ?_ ?_ ?_ ?_ ?_ ?_
     ·simp only[yc,Bq,E8,seval]
     ·simp only[yc,Bq,E8,seval]
     all_goals (try subst qG);(try simp only[tN,c1,yc,Bq,E8,seval]);(try simp only[Int.add_zero])
 ·rintro t ⟨hs,hI⟩
  have tN:(zL A).take A.length=zL A:=List.take_of_length_le (by rw[wZ];exact Nat.le_refl _)
  rcases hI with ⟨qG,rfl⟩ | ⟨qG,c,es,hg,rfl⟩
  ·omega
  ·simp only[yc,Bq,E9,aE,Int.lt_irrefl,decide_false,aQ,bm,ao,aq,bq,aS,dP,vR,seval]
   have Ph:(zL A).length=A.length:=wZ
   rw[tN]at hg
   refine lJ (m:=m) (f:=f) (kc:=kc) (cut:=cut) (at_:=at_) (cnt:=cnt+A.length) (L:=zL A) (w:=60) (c0:=c) (wc:=es) ⟨?_, ?_, ?_, ?_, ?_, ?_⟩ ?_ (by decide) hg (fun h=>by rw[h]at Ph;simp at Ph;omega) (by rw[Ph];omega) (Nd hA) hk (by omega) ?_<;>try (simp only[Ph,ao,aq,vR,seval];done)
   simp only[yc,Bq,E9,aE,Int.lt_irrefl,decide_false,aQ,bm,ao,aq,bq,aS,dP,vR,seval]
   unfold dw
   rw[if_neg (fun h=>by have h9:=of_decide_eq_true h;omega)]
   refine Bo (by rfl) (by decide) ?_ ?_ ?_<;>(simp only[qI,ae,vR,seval];done)
def aX (st nx:Nat) (q:Int) (sv:SV):List SV:=[Sum.inl (.int .i64 (st:Int)),Sum.inl (.int .i64 (nx:Int)),Sum.inl (.int .u64 q),sv]
theorem iN {st nx:Nat} {q:Int} {sv:SV}:(aX st nx q sv).length=4:=rfl
theorem kj {r:Nat→Nat} {st nx:Nat} {q:Int} {sv:SV}:AV.ren r (Ag (aX st nx q sv))=Ag (aX st nx q (SV.ren r sv)):=rfl
theorem fx {st nx:Nat} {q:Int} {sv:SV} {M:Nat→Prop} (h:SV.ok M sv): ∀ x ∈ aX st nx q sv,SV.ok M x:=fun x hx=>by
 simp only[aX,cz]at hx
 rcases hx with rfl | rfl | rfl | rfl
 ·exact ⟨trivial,rfl⟩
 ·exact ⟨trivial,rfl⟩
 ·exact ⟨trivial,rfl⟩
 ·exact h
theorem Pk {st nx:Nat} {q:Int} {sv:SV} {M:Nat→Prop} (h:SV.ok M sv): ∀ v ∈ [Ag (aX st nx q sv)],AV.ok M v:=fun v hv=>by
 rw[List.mem_singleton]at hv
 subst hv
 exact fx h
theorem mb {g:Nat→Int} {x:SV} {k:IntKind}:splice (aA k 1 g) 0 [x]=[x]:=rfl
theorem Ej {s k:Nat}:List.range' s (k+1)=List.range' s k++[s+k]:=by rw[List.range'_1_concat]
theorem Ni {st n:Nat} {q:Int} {sv:SV} {f:Nat→Int} {np:Nat} {ps:List SV} (hl:cY 0 sv np f ps) (hp:ps.all SV.plain=true) (hst:st≤100000) (hn:0 < n) (hn1:n≤100000):
  bC Tryd.prog 55 [Ag (aX st (st+n) q sv)] 1 (lk [(0,⟨false,ps⟩)]) (fun v out=> ∃ c cs,eU cs (List.range' st n) c∧v=Sl 1 0 n c∧out=lk [(1,⟨true,cs⟩)]):=by
 refine aU Tryd.func55 rfl (by kernel_rfl) (by simp[Tryd.ntmps55]) Tryd.qv (Pk (hl.ok (by decide))) j0 (j5 hp) ?_
 have hok: ∀ {M:Nat→Prop},M 0→SV.ok M sv:=fun h=>hl.ok h
 have hone:=(hl.ok (M:=fun n=>n < 1) (by decide)).2
 have nJ: ∀ {M:Nat→Prop},(∀ x ∈ ps,SV.ok M x)=True:=eq_true (ai hp)
 simp only[Tryd.results55,aX,vR,seval]
 refine Mi n (fun k t=>(k=0∧t=nX [(1,Ptr 1 0),(3,V (.slice none 0 0)),(4,I .i64 (st+k:Nat))] [(0,⟨false,ps⟩),(1,⟨true,aX st (st+n) q sv⟩)] 61)∨
  (0 < k∧ ∃ c es,eU es (List.range' st k) c∧t=nX [(3,Sl 60 0 k c),(1,Ptr 1 0),(4,I .i64 (st+k:Nat))] [(60,⟨true,es⟩),(0,⟨false,ps⟩),(1,⟨true,aX st (st+n) q sv⟩)] 61)) ?_ ?_ ?_ ?_
 ·rintro k t (⟨_,rfl⟩ | ⟨_,_,_,_,rfl⟩)<;>(show (7:Nat)≤61;decide)
 ·refine ⟨_, .inl ⟨rfl,rfl⟩,dx.nC ?_⟩
  simp only[aX,nJ,vR,seval]
  exact ⟨trivial,hok (by decide)⟩
 ·rintro k t hk hI
  have hlt:st+k < st+n:=by omega
  have h1:IntKind.i64.wrap (((st+k:Nat):Int)+1)=((st+(k+1):Nat):Int):=by rw[wrap_i64 _ (by omega) (by omega)];omega
  have h2:=Ej (s:=st) (k:=k)
  have hL:(List.range' st k).length=k:=List.length_range'
  have X: ∀ x ∈ [(0,(⟨false,ps⟩:aG)),(1,⟨true,aX st (st+n) q sv⟩)],x.1 < 60∧ ∀ y ∈ x.2.cells,SV.ok (fun n=>n < 60) y:=fun x hx=>by
   simp only[cz]at hx
   rcases hx with rfl | rfl
   ·exact ⟨(by decide:0 < 60),ai hp⟩
   ·exact ⟨(by decide:1 < 60),fx (hok (by decide))⟩
  rcases hI with ⟨qG,rfl⟩ | ⟨qG,c,es,hg,rfl⟩
  ·simp only[aE,aJ hlt,decide_true,h1,h2,aX,kT,mb,ao,aq,vR,seval]
   refine sx (a:=st+k) (eY:=true) Tryd.tH Tryd.zP ?_ (by decide) fun c3 Eb gu=> ?_
   ·simp only[mb,ao,aq,ae,vR,seval]
   simp only[aE,aJ hlt,decide_true,h1,h2,aX,kT,mb,ao,aq,vR,seval]
   refine ⟨_, .inr ⟨by omega,c3,Eb,by subst qG;exact gu,rfl⟩,sy (q:=68) (by decide) (by decide) ?_ ?_ gu.plain ?_ X ?_⟩
   all_goals (try simp only[aX,jP,jQ,pB,qG,vR,seval])
   all_goals first | exact ⟨rfl,rfl⟩ | trivial
  ·simp only[aE,aJ hlt,decide_true,h1,h2,aX,kT,mb,ao,aq,vR,seval]
   have hg':=hg
   rw[← hL]at hg'
   have e3:Sl 60 0 k c=Sl 60 0 (List.range' st k).length c:=by rw[hL]
   rw[e3]
   refine wY (a:=st+k) (eY:=true) Tryd.tH Tryd.zP hg ?_ ?_ (by decide) (by omega) (by decide) fun c3 Eb gu=> ?_
   ·simp only[mb,ao,aq,ae,vR,seval]
   ·simp only[mb,ao,aq,ae,vR,seval]
   rw[hL]
   simp only[aE,aJ hlt,decide_true,h1,h2,aX,kT,mb,ao,aq,vR,seval]
   refine ⟨_, .inr ⟨by omega,c3,Eb,gu,rfl⟩,sy (q:=68) (by decide) (by decide) ?_ ?_ gu.plain ?_ X ?_⟩
   all_goals (try simp only[aX,jP,jQ,pB,vR,seval])
   all_goals first | exact ⟨rfl,rfl⟩ | trivial
 ·rintro t (⟨qG,rfl⟩ | ⟨qG,c,es,hg,rfl⟩)
  ·omega
  ·simp only[aE,Int.lt_irrefl,decide_false,aX,kT,ao,aq,vR,seval]
   exact gX (k:=1) (q:=60) (cs:=es) (by decide) rfl hg.plain ⟨c,es,hg,rfl,rfl⟩
theorem oD {s:AS} {k:Nat} {v:AV} {Post:AV→(Nat→Option aG)→Prop} (hv:AV.ok (fun n=>n < k) v) (h:Post v (fun _=>none)):nA k Post v s:=
 ⟨k,v,fun _=>none,Nat.le_refl k,(HQ (k:=k) (fun n hn=>LQ hn) hv).symm,AV.aI (fun n hn=>by omega) hv,fun n b hb=>(by cases hb),h⟩
def cK (l:List SV) (e:Value):AV:= .inr [.inr l, .inl (.inl e)]
theorem IJ {l:List SV} {e:Value} {M:Nat→Prop} (hl: ∀ x ∈ l,SV.ok M x) (he:CV.ok M (Sum.inl (Sum.inl e))):AV.ok M (cK l e):=fun x hx=>by
 simp only[cz]at hx
 rcases hx with rfl | rfl
 ·exact hl
 ·exact he
def eu:List SV:=[Sum.inl (.int .u64 0),Sum.inl (.slice none 0 0)]
def nq (q:Int) (sv:SV):AV:=if q=18446744073709551615 then cK eu (bR 3) else cK (bj (q+1) sv) .nilIface
def nt:cp:=
 let e0:cp:=(.cons 3 .nil .nil)
 let e1:cp:=(.cons 2 e0 .nil)
 let e2:cp:=(.cons 1 e0 .nil)
 let e3:cp:=(.cons 1 e1 (.cons 2 e2 .nil))
 let e4:cp:=(.cons 0 e1 .nil)
 let e5:cp:=(.cons 0 e3 (.cons 1 e4 .nil))
 e5
theorem Ek {st nx:Nat} {q:Int} {sv ry:SV} {f f0:Nat→Int} {np n0:Nat} {ps cs:List SV} (hl:cY 0 sv np f ps) (hp:ps.all SV.plain=true) (lI:cY 1 ry n0 f0 cs) (hc:cs.all SV.plain=true) (KV:0≤q) (hq:q≤18446744073709551615):
  bC Tryd.prog 41 [Ag (aX st nx q sv),Sum.inl (Sum.inl ry)] 2 (lk [(0,⟨false,ps⟩),(1,⟨false,cs⟩)]) (fun v out=>v=nq q ry∧out=fun _=>none):=by
 refine bO Tryd.func41 rfl (by kernel_rfl) [2] [] (by simp[Tryd.ntmps41]) Tryd.qm (fun v hv=>by
  simp only[cz]at hv
  rcases hv with rfl | rfl
  ·exact fx (hl.ok (M:=fun n=>n < 2) (by decide))
  ·exact (lI.ok (M:=fun n=>n < 2) (by decide)).1) xX (xY hp hc) ?_
 have hone:=(lI.ok (M:=fun n=>n < 2) (by decide)).2
 simp only[Tryd.results41,aX,E7,seval]
 by_cases Vk:q=18446744073709551615
 ·have e1:(q==18446744073709551615)=true:=by simpa using Vk
  simp only[e1,Tryd.bt,E7,seval]
  refine jC (by kernel_rfl) [] [] [] [0,1,2,3] [] [] [10,11,5] nt (by kernel_rfl) (by kernel_rfl) (by kernel_rfl) (by kernel_rfl) (fun t ht=>(by cases ht)) ?_
  simp only[nt,gL,e1,pF,Tryd.bt,E7,seval]
  have fin: ∀ {s:AS},nA 2 (fun v out=>v=nq q ry∧out=fun _=>none) (cK eu (bR 3)) s:=fun {s}=>by
   have e:nq q ry=cK eu (bR 3):=if_pos Vk
   exact aL rfl ⟨e.symm,rfl⟩
  first | exact fin | exact ⟨fin,fin⟩ | exact ⟨⟨fin,fin⟩,fin⟩ | exact ⟨fin,fin,fin⟩
 ·have e1:(q==18446744073709551615)=false:=by simpa using Vk
  have e2:IntKind.u64.wrap (q+1)=q+1:=cI _ (by omega) (by omega)
  simp only[e1,e2,wT hone,D5,D6,pF,Tryd.bt,E7,seval]
  have e:nq q ry=cK (bj (q+1) ry) .nilIface:=if_neg Vk
  exact oD (IJ (j8 (lI.ok (by decide))) trivial) ⟨e.symm,rfl⟩
def ug (n:Nat) (f g:Nat→Int):Bool:=(List.range n).all fun i=>f i==g i
theorem fG {n:Nat} {f g:Nat→Int}:ug n f g=true↔ ∀ i,i < n→f i=g i:=by
 simp[ug,List.all_eq_true,List.mem_range]
theorem jw {f g:Nat→Int}:PZ .neq 64 (fy .u8 (aA .u8 64 f)) (fy .u8 (aA .u8 64 g))=some (some (B (!ug 64 f g)),none):=by
 have e:decide ((List.range 64).map f=(List.range 64).map g)=ug 64 f g:=by
  rw[Bool.eq_iff_iff,decide_eq_true_iff,fG,List.map_inj_left]
  simp[List.mem_range]
 rw[q7,q7,OD,if_pos ⟨by simp,by simp⟩,e]
theorem IK {f g:Nat→Int}:PZ .eql 64 (fy .u8 (aA .u8 64 f)) (fy .u8 (aA .u8 64 g))=some (some (B (ug 64 f g)),none):=by
 have e:decide ((List.range 64).map f=(List.range 64).map g)=ug 64 f g:=by
  rw[Bool.eq_iff_iff,decide_eq_true_iff,fG,List.map_inj_left]
  simp[List.mem_range]
 rw[q7,q7,OC,if_pos ⟨by simp,by simp⟩,e]
theorem Pl {n c0 c1:Nat} {f g:Nat→Int} (hn:n≤1048576):
  bC Tryd.prog 65 [Sl 0 0 n c0,Sl 1 0 n c1] 2 (lk [(0,⟨false,aA .u8 (64*n) f⟩),(1,⟨false,aA .u8 (64*n) g⟩)]) (fun v out=>v=B (ug (64*n) f g)∧out=fun _=>none):=by
 refine bO Tryd.func65 rfl (by kernel_rfl) [6] [] (by simp[Tryd.ntmps65]) Tryd.F8 (by simp[AV.ok,CV.ok,SV.names]) xX (xY aD aD) ?_
 have nJ: ∀ {M:Nat→Prop} {h:Nat→Int} {N:Nat},(∀ x ∈ aA .u8 N h,SV.ok M x)=True:=eq_true (ai aD)
 have e0:((n:Int) != (n:Int))=false:=by simp
 simp only[Tryd.results65,e0,E7,seval]
 refine sj n (fun k t=>(∀ i,i < 64*k→f i=g i)∧t=nX [(0,Sl 0 0 n c0),(1,Sl 1 0 n c1),(12,I .i64 n),(13,I .i64 k)] [(0,⟨false,aA .u8 (64*n) f⟩),(1,⟨false,aA .u8 (64*n) g⟩)] 61) ?_ ?_ ?_ ?_
 ·rintro k t ⟨_,rfl⟩
  show (11:Nat)≤61
  decide
 ·refine ⟨_,⟨fun i hi=>by omega,rfl⟩,dx.nC ?_⟩
  simp only[nJ,vR,seval]
 ·rintro k t hk ⟨hI,rfl⟩
  have a4:(k*64+64≤64*n)=True:=eq_true (by omega)
  simp only[aE,aJ hk,decide_true,a4,E7,seval]
  refine dK (by kernel_rfl) [0,1,2,3,4,5,6,7,8] [] [] [] [] [16,17,18,19,20,21,22,23,24] (by kernel_rfl) (by kernel_rfl) (by kernel_rfl) ?_
  have r1:List.take 64 (List.drop (k*64) (aA .u8 (64*n) f))=aA .u8 64 (fun i=>f (k*64+i)):=kE _ _ _ _ _ (by omega)
  have r2:List.take 64 (List.drop (k*64) (aA .u8 (64*n) g))=aA .u8 64 (fun i=>g (k*64+i)):=kE _ _ _ _ _ (by omega)
  by_cases he:ug 64 (fun i=>f (k*64+i)) (fun i=>g (k*64+i))=true
  ·simp only[aE,aJ hk,decide_true,a4,r1,r2,jw,he,Bool.not_true,Bool.not_false,bQ k (by omega),E7,seval]
   refine ⟨_,⟨fun i hi=> ?_,rfl⟩,dx.nC ?_⟩
   ·by_cases hi2:i < 64*k
    ·exact hI i hi2
    ·have:=fG.1 he (i - k*64) (by omega)
     rwa [show k*64+(i - k*64)=i by omega]at this
   ·simp only[nJ,E7,seval]
  ·have he':ug 64 (fun i=>f (k*64+i)) (fun i=>g (k*64+i))=false:=by simpa using he
   simp only[aE,aJ hk,decide_true,a4,r1,r2,jw,he',Bool.not_true,Bool.not_false,bQ k (by omega),E7,seval]
   refine aL rfl ⟨congrArg B (Eq.symm ?_),rfl⟩
   rw[← Bool.not_eq_true]
   exact fun h=>he (fG.2 fun i hi=>fG.1 h _ (by omega))
 ·rintro t ⟨hI,rfl⟩
  simp only[aE,Int.lt_irrefl,decide_false,E7,seval]
  exact aL rfl ⟨congrArg B (fG.2 hI).symm,rfl⟩
def bW (h:Nat→Int):Int:=ll (fun i=>h (1+i)) 8
def Gv (h:Nat→Int):Int:=ll (fun i=>h (9+i)) 4
def bd (h:Nat→Int):Nat:=(Gv h).toNat
def aF (f:Nat→Int) (a:Nat):Nat→Int:=fun i=>f (a*64+i)
def dc (f:Nat→Int) (a:Nat):Nat→Int:=fun i=>f ((a+1)*64+i)
def gU (f:Nat→Int) (a e:Nat):Bool:= !decide (bW (aF f a)=0)&&decide (aM (bd (aF f a))≤e - a)
def fS (f:Nat→Int) (a:Nat):Bool:=ug 64 (gM (bW (aF f a)) (bd (aF f a)) (dc f a)) (aF f a)&&ug (64*aO (bd (aF f a))) (fX (bd (aF f a)) (dc f a)) (dc f a)
def dQ (l:List SV) (b:Bool):AV:= .inr [.inr l, .inl (.inl (.bool b))]
def Nj (k:Nat) (f:Nat→Int) (a e:Nat) (v:AV) (out:Nat→Option aG):Prop:=
 (gU f a e=false∧v=dQ eu false∧out=fun _=>none)∨
 (gU f a e=true∧ ∃ c cs,bu cs 0 (bd (aF f a)) (dc f a)∧bd (aF f a)≤c∧cs.all SV.plain=true∧v=dQ (bj (bW (aF f a)) (.inr (.inr (k,0,bd (aF f a),c)))) (fS f a)∧out=lk [(k,⟨true,cs⟩)])
theorem tO {s:AS} {nm t o n c N:Nat} {eY:Bool} {h:Nat→Int} (hb:s.box t=some ⟨eY,aA .u8 N h⟩) (hh:cU h) (hN:o+n≤N) (hn:n≤8) {dst:Option Nat} {K:AS→Prop} (hk:K (s.put dst (some (I .u64 (ll (fun i=>h (o+i)) n))))):aB Tryd.prog nm 64 (some [Sl t o n c]) dst K s:=
 (M4 (c:=c) (f:=fun i=>h (o+i)) (fun i=>hh _) (fun i hi=>bI .u8 N h (o+i) (by omega)) aD hn).iB (fun _=>t) (dU hb aD) rfl rfl hk
theorem sA {s:AS} {nm m lo n:Nat} {f:Nat→Int} {pc nc kc:List SV} (hd:m5 s (ju m f pc nc kc)) (h:fY pc nc kc) (hm:m≤1048576) (hn:lo+n≤m) {x:Int} (hx:x=((lo+n:Nat):Int)) {dst:Option Nat} {K:AS→Prop}
  (hk:K (({ s with box:=upd s.box nm (some ⟨true,aA .u8 (64*n) (fun i=>f (lo*64+i))⟩) }:AS).put dst (some (Sl nm 0 n n)))):aB Tryd.prog nm 39 (some [Ag (eE 0 1 2 3),I .i64 lo,I .i64 x]) dst K s:=by
 subst hx
 refine (pH (n:=n) h hm hn).aB (fun n=>n) none (hd.fits jj) (fw _) ?_
 rintro v out ⟨rfl,rfl⟩ _
 rw[dv aD]
 have e2:AV.ren (dy (fun n=>n) 6 nm) (Sl 6 0 n n)=Sl nm 0 n n:=by
  show Sl (dy (fun n=>n) 6 nm 6) 0 n n=_
  rw[gl]
 rw[e2]
 exact hk
theorem El {s:AS} {nm t m c:Nat} {eY:Bool} {f:Nat→Int} (hb:s.box t=some ⟨eY,aA .u8 (64*m) f⟩) (hm:m≤1048576) {dst:Option Nat} {K:AS→Prop}
  (hk: ∀ c' cs',eI cs' 0 (64*m) c' f→K (({ s with box:=upd s.box nm (some ⟨true,cs'⟩) }:AS).put dst (some (Sl nm 0 (64*m) c')))):aB Tryd.prog nm 38 (some [Sl t 0 m c]) dst K s:=by
 refine (D7 (eY:=false) (c:=c) hm).aB (fun _=>t) none (dU hb aD) rfl ?_
 rintro v out ⟨c',tail,rfl,rfl,h1,h2,h3⟩ _
 rw[dv (dz h3)]
 have e2:AV.ren (dy (fun _=>t) 1 nm) (Sl 1 0 (64*m) c')=Sl nm 0 (64*m) c':=by
  show Sl (dy (fun _=>t) 1 nm 1) 0 _ _=_
  rw[gl]
 rw[e2]
 exact hk c' _ ⟨by rw[List.length_append,aH,h2];omega,h1,dz h3,ik⟩
theorem Em {s:AS} {nm t n:Nat} {r0:Bool} {cs:List SV} {f:Nat→Int} {q:Int} {sv:SV} (hb:s.box t=some ⟨r0,cs⟩) (hl:cY t sv n f cs) (hs: ∀ M:Nat→Prop,SV.ok M sv→M t) (hp:cs.all SV.plain=true) (hf:cU f) (hn:n < 16777216) {ops:Array Oper} {i:Nat} {dst:Option Nat} {K:AS→Prop}
  (hk:K (s.put dst (some (Ag (aA .u8 64 (gM q n f)))))):qW Tryd.prog ops i nm 37 (some [Ag (bj q sv)]) dst K s:=by
 obtain ⟨s0,h0,h1⟩:=hl.jJ 0
 refine (Ef (q:=q) h0 hp hf hn).iC (fun _=>t) (dU hb hp) aD ?_ (fun M hM n hn=>hs M ((hM (Ag (bj q sv)) (List.mem_singleton.2 rfl): ∀ x ∈ bj q sv,SV.ok M x) sv (by simp[bj]))) hk
 simp only[List.map_cons,List.map_nil,iJ,h1 (fun _=>t) rfl]
theorem Ko {s:AS} {nm t n:Nat} {r0:Bool} {cs:List SV} {f:Nat→Int} {q:Int} {sv:SV} (hb:s.box t=some ⟨r0,cs⟩) (hl:cY t sv n f cs) (hs: ∀ M:Nat→Prop,SV.ok M sv→M t) (hp:cs.all SV.plain=true) (hn:n < 16777216) {ops:Array Oper} {i:Nat} {dst:Option Nat} {K:AS→Prop}
  (hk:K ((⟨s.env,upd s.box nm (some ⟨true,aA .u8 (64*aO n) (fX n f)⟩),s.next⟩:AS).put dst (some (Sl nm 0 (aO n) (aO n))))):qW Tryd.prog ops i nm 36 (some [Ag (bj q sv)]) dst K s:=by
 obtain ⟨s0,h0,h1⟩:=hl.jJ 0
 refine .inr (.inl ⟨(some (Sl nm 0 (aO n) (aO n)),some (.inl (aA .u8 (64*aO n) (fX n f)))),(Nc (q:=q) h0 hp hn).reads (fun _=>t) (dU hb hp) ?_ (fun M hM n hn=>hs M ((hM (Ag (bj q sv)) (List.mem_singleton.2 rfl): ∀ x ∈ bj q sv,SV.ok M x) sv (by simp[bj]))) ?_ ?_,hk⟩)
 ·simp only[List.map_cons,List.map_nil,iJ,h1 (fun _=>t) rfl]
 ·rintro v out ⟨rfl,rfl⟩
  have e:AV.ren (dy (fun _=>t) 1 nm) (Sl 1 0 (aO n) (aO n))=Sl nm 0 (aO n) (aO n):=by show Sl (dy (fun _=>t) 1 nm 1) 0 _ _=_;rw[gl]
  simp[FA,lk,az aD,e]
 ·rintro e rfl
  exact .inr ⟨_,rfl⟩
theorem Gw {s:AS} {nm t u n c0 c1:Nat} {r0 r1:Bool} {f g:Nat→Int} (hb:s.box t=some ⟨r0,aA .u8 (64*n) f⟩) (hb':s.box u=some ⟨r1,aA .u8 (64*n) g⟩) (hn:n≤1048576) {ops:Array Oper} {i:Nat} {dst:Option Nat} {K:AS→Prop}
  (hk:K (s.put dst (some (B (ug (64*n) f g))))):qW Tryd.prog ops i nm 65 (some [Sl t 0 n c0,Sl u 0 n c1]) dst K s:=
 (Pl (c0:=c0) (c1:=c1) hn).iC (two t u) (lY hb aD hb' aD) rfl rfl (fun M hM n hn=>by
  have h1:=hM _ (List.mem_cons_self ..)
  have h2:=hM _ (List.mem_cons_of_mem _ (List.mem_cons_self ..))
  rcases (show n=0∨n=1 by omega) with rfl | rfl
  ·exact h1
  ·exact h2) hk
theorem Pm {s:AS} {k q n c:Nat} {x:Int} {b:Bool} {cs:List SV} {Post:AV→(Nat→Option aG)→Prop} (hq:k≤q) (hb:s.box q=some ⟨true,cs⟩) (hp:cs.all SV.plain=true)
  (h:Post (dQ (bj x (.inr (.inr (k,0,n,c)))) b) (lk [(k,⟨true,cs⟩)])):nA k Post (dQ (bj x (.inr (.inr (q,0,n,c)))) b) s:=by
 refine dD (q:=q) (v0:=dQ (bj x (.inr (.inr (k,0,n,c)))) b) hq ?_ (fun y hy=> ?_) (fun y hy=> ?_) h
 ·simp only[dQ,bj,AV.ren,CV.ren,List.map_cons,List.map_nil,SV.ren,dT,jO]
 ·simp only[cz]at hy
  rcases hy with rfl | rfl
  ·exact j8 ⟨Nat.lt_succ_self k,rfl⟩
  ·exact trivial
 ·rw[List.mem_singleton]at hy
  subst hy
  exact ⟨Nat.lt_succ_self k,fun _=>rfl,ai hp,by rw[az hp,jO];exact hb⟩
theorem Gx {m a e:Nat} {f:Nat→Int} {pc nc kc:List SV} (h:fY pc nc kc) (hf:cU f) (hm:m≤8192) (ha:a < e) (he:e≤m):
  bC Tryd.prog 58 [Ag (eE 0 1 2 3),I .i64 a,I .i64 e] 6 (lk (ju m f pc nc kc)) (Nj 6 f a e):=by
 refine bO Tryd.func58 rfl (by kernel_rfl) [] [] (by simp[Tryd.ntmps58]) Tryd.qw (fun v hv=>by
  simp only[cz]at hv
  rcases hv with rfl | rfl | rfl
  ·exact dg fun n hn=>by omega
  ·trivial
  ·trivial) ke (kg h) ?_
 simp only[Tryd.results58,ju,da,seval, -List.reduceReplicate]
 refine kv (dE m f (by simp only[ae,vR,seval, -List.reduceReplicate]) (by simp only[ae,vR,seval, -List.reduceReplicate]) (by simp only[ae,vR,seval, -List.reduceReplicate]) (by simp only[ae,vR,seval, -List.reduceReplicate]) (by simp only[ae,vR,seval, -List.reduceReplicate]) (by simp only[ae,vR,seval, -List.reduceReplicate])) h (by omega) (by omega) ?_
 have bS:cU (aF f a):=fun i=>hf _
 have eS:(fun i=>f (a*64+i))=aF f a:=rfl
 simp only[eS,da,seval, -List.reduceReplicate]
 refine tO (eY:=true) (N:=64) (h:=aF f a) (by simp only[ae,vR,seval, -List.reduceReplicate]) bS (by decide) (by decide) ?_
 have eQ:ll (fun i=>aF f a (1+i)) 8=bW (aF f a):=rfl
 have eL:ll (fun i=>aF f a (9+i)) 4=((bd (aF f a):Nat):Int):=by
  have:=jt (f:=fun i=>aF f a (9+i)) (fun i=>bS _) 4
  unfold bd Gv
  omega
 have hL:bd (aF f a) < 4294967296:=by
  have:=jt (f:=fun i=>aF f a (9+i)) (fun i=>bS _) 4
  unfold bd Gv
  omega
 simp only[eQ,da,seval, -List.reduceReplicate]
 refine tO (eY:=true) (N:=64) (h:=aF f a) (by simp only[ae,vR,seval, -List.reduceReplicate]) bS (by decide) (by decide) ?_
 simp only[eL,da,seval, -List.reduceReplicate]
 have Uj: ∀ {s:AS},gU f a e=false→nA 6 (Nj 6 f a e) (dQ eu false) s:=fun {s} hr=>aL rfl (.inl ⟨hr,rfl,rfl⟩)
 by_cases h0:bW (aF f a)=0
 ·have e0:(bW (aF f a)==0)=true:=by simpa using h0
  simp only[e0,pF,da,seval, -List.reduceReplicate]
  exact Uj (by simp[gU,h0])
 ·have e0:(bW (aF f a)==0)=false:=by simpa using h0
  have w1:IntKind.u64.wrap (((e:Nat):Int) - ((a:Nat):Int))=((e - a:Nat):Int):=by rw[cI _ (by omega) (by omega)];omega
  have w2:IntKind.i64.wrap (((e:Nat):Int) - ((a:Nat):Int))=((e - a:Nat):Int):=by rw[wrap_i64 _ (by omega) (by omega)];omega
  have w3:IntKind.u64.wrap ((e - a:Nat):Int)=((e - a:Nat):Int):=cI _ (by omega) (by omega)
  simp only[e0,pF,da,seval, -List.reduceReplicate]
  refine (wM (n:=bd (aF f a)) (by omega)).aB ?_
  by_cases hr:aM (bd (aF f a))≤e - a
  ·have g1:(((e - a:Nat):Int) < ((aM (bd (aF f a)):Nat):Int))=False:=eq_false (by omega)
   have hroom:gU f a e=true:=by simp[gU,h0,hr]
   simp only[w1,w2,w3,g1,decide_false,da,seval, -List.reduceReplicate]
   refine .inl ?_
   simp only[w1,w2,w3,da,seval, -List.reduceReplicate]
   refine ⟨by kernel_rfl,(wM (n:=bd (aF f a)) (by omega)).draw Tryd.qe ?_⟩
   have w4:IntKind.i64.wrap ((a:Nat):Int)=((a:Nat):Int):=wrap_i64 _ (by omega) (by omega)
   have w5:IntKind.i64.wrap (((a:Nat):Int)+1)=((a+1:Nat):Int):=by rw[wrap_i64 _ (by omega) (by omega)];omega
   have w6:IntKind.i64.wrap ((aM (bd (aF f a)):Nat):Int)=((aM (bd (aF f a)):Nat):Int):=wrap_i64 _ (by omega) (by omega)
   have w7:IntKind.i64.wrap (((a:Nat):Int)+((aM (bd (aF f a)):Nat):Int))=((a+1+aO (bd (aF f a)):Nat):Int):=by rw[wrap_i64 _ (by omega) (by omega)];unfold aM aO;omega
   have w8:IntKind.i64.wrap ((bd (aF f a):Nat):Int)=((bd (aF f a):Nat):Int):=wrap_i64 _ (by omega) (by omega)
   have hC:a+1+aO (bd (aF f a))≤m:=by unfold aM at hr;unfold aO;omega
   have hCl:bd (aF f a)≤64*aO (bd (aF f a)):=by unfold aO;omega
   simp only[w5,w6,w7,da,seval, -List.reduceReplicate]
   refine .inr (.inr (.inr ⟨by kernel_rfl, ?_⟩))
   simp only[if_pos (show au Tryd.prog 39=true from Tryd.mV)]
   refine sA (lo:=a+1) (n:=aO (bd (aF f a))) (dE m f (by simp only[ae,vR,seval, -List.reduceReplicate]) (by simp only[ae,vR,seval, -List.reduceReplicate]) (by simp only[ae,vR,seval, -List.reduceReplicate]) (by simp only[ae,vR,seval, -List.reduceReplicate]) (by simp only[ae,vR,seval, -List.reduceReplicate]) (by simp only[ae,vR,seval, -List.reduceReplicate])) h (by omega) hC rfl ?_
   have eP:(fun i=>f ((a+1)*64+i))=dc f a:=rfl
   simp only[eP,da,seval, -List.reduceReplicate]
   refine El (eY:=true) (f:=dc f a) (by simp only[ae,vR,seval, -List.reduceReplicate]) (by omega) fun c' cs' hg=> ?_
   have g2:(((bd (aF f a):Nat):Int)≤(c':Int))=True:=eq_true (by have:=hg.room;omega)
   simp only[w8,g2,D5,D6,pF,da,seval, -List.reduceReplicate]
   refine .inl ?_
   simp only[da,seval, -List.reduceReplicate]
   have K6:cY 44 (.inr (.inr (44,0,bd (aF f a),c'))) (bd (aF f a)) (dc f a) cs':= .inr ⟨0,c',rfl,by have:=hg.room;omega,fun i hi=>hg.shows i (by omega)⟩
   have hs: ∀ M:Nat→Prop,SV.ok M (.inr (.inr (44,0,bd (aF f a),c')))→M 44:=fun M hM=>hM.1
   have bP:cU (dc f a):=fun i=>hf _
   refine ⟨by kernel_rfl,Em (r0:=true) (cs:=cs') (f:=dc f a) (t:=44) (by simp only[ae,vR,seval, -List.reduceReplicate]) K6 hs hg.plain bP (by omega) ?_⟩
   simp only[da,seval, -List.reduceReplicate]
   have fin: ∀ {s:AS} {b:Bool},b=fS f a→s.box 44=some ⟨true,cs'⟩→nA 6 (Nj 6 f a e) (dQ (bj (bW (aF f a)) (.inr (.inr (44,0,bd (aF f a),c')))) b) s:=fun {s b} hb Za=>by
    subst hb
    exact Pm (by decide) Za hg.plain (.inr ⟨hroom,c',cs',fun i hi=>hg.shows i (by omega),by have:=hg.room;omega,hg.plain,rfl,rfl⟩)
   by_cases hE:ug 64 (gM (bW (aF f a)) (bd (aF f a)) (dc f a)) (aF f a)=true
   ·simp only[IK,hE,da,seval, -List.reduceReplicate]
    refine Ko (r0:=true) (cs:=cs') (f:=dc f a) (t:=44) (by simp only[ae,vR,seval, -List.reduceReplicate]) K6 hs hg.plain (by omega) ?_
    simp only[da,seval, -List.reduceReplicate]
    refine Gw (r0:=true) (r1:=true) (f:=fX (bd (aF f a)) (dc f a)) (g:=dc f a) (by simp only[ae,vR,seval, -List.reduceReplicate]) (by simp only[ae,vR,seval, -List.reduceReplicate]) (by omega) ?_
    simp only[pF,da,seval, -List.reduceReplicate]
    exact fin (by simp[fS,hE]) (by simp only[ae,vR,seval, -List.reduceReplicate])
   ·have IL:ug 64 (gM (bW (aF f a)) (bd (aF f a)) (dc f a)) (aF f a)=false:=by simpa using hE
    simp only[IK,IL,pF,da,seval, -List.reduceReplicate]
    exact fin (by simp[fS,IL]) (by simp only[ae,vR,seval, -List.reduceReplicate])
  ·have g1:(((e - a:Nat):Int) < ((aM (bd (aF f a)):Nat):Int))=True:=eq_true (by omega)
   simp only[w1,w2,w3,g1,decide_true,pF,da,seval, -List.reduceReplicate]
   exact Uj (by simp[gU,hr])
theorem jm {s:AS} {r:Nat→Nat} {k nm:Nat}:after s r k nm none (fun _=>none)=s.box:=by
 funext t
 unfold after
 by_cases h:t=nm
 ·simp[h]
 ·simp[h]
theorem gV {s:AS} {nm m a e:Nat} {f:Nat→Int} {pc nc kc:List SV} (hd:m5 s (ju m f pc nc kc)) (h:fY pc nc kc) (hf:cU f) (hm:m≤8192) (ha:a < e) (he:e≤m) {x y:Int} (hx:x=(a:Int)) (hy:y=(e:Int)) {dst:Option Nat} {K:AS→Prop}
  (h0:gU f a e=false→K (s.put dst (some (dQ eu false))))
  (h1:gU f a e=true→ ∀ c cs,bu cs 0 (bd (aF f a)) (dc f a)→bd (aF f a)≤c→cs.all SV.plain=true→K (({ s with box:=upd s.box nm (some ⟨true,cs⟩) }:AS).put dst (some (dQ (bj (bW (aF f a)) (.inr (.inr (nm,0,bd (aF f a),c)))) (fS f a))))):
  aB Tryd.prog nm 58 (some [Ag (eE 0 1 2 3),I .i64 x,I .i64 y]) dst K s:=by
 subst hx
 subst hy
 refine (Gx h hf hm ha he).aB (fun n=>n) none (hd.fits jj) (fw _) ?_
 rintro v out (⟨hr,rfl,rfl⟩ | ⟨hr,c,cs,g1,g2,g3,rfl,rfl⟩) _
 ·rw[jm,AV.cJ (show AV.plain (dQ eu false)=true from rfl)]
  exact h0 hr
 ·rw[dv g3]
  have e2:AV.ren (dy (fun n=>n) 6 nm) (dQ (bj (bW (aF f a)) (.inr (.inr (6,0,bd (aF f a),c)))) (fS f a))=dQ (bj (bW (aF f a)) (.inr (.inr (nm,0,bd (aF f a),c)))) (fS f a):=by
   simp only[dQ,bj,AV.ren,CV.ren,List.map_cons,List.map_nil,SV.ren,dT,gl]
  rw[e2]
  exact h1 hr c cs g1 g2 g3
def ay (f:Nat→Int) (p:Nat):Nat:=p+aM (bd (aF f p))
def okB (f:Nat→Int) (a e:Nat):Bool:=gU f a e&&fS f a
def lL (f:Nat→Int) (e p:Nat):Bool:=decide (ay f p < e)&&okB f (ay f p) e&&decide (bW (aF f (ay f p))=bW (aF f p)+1)
def walk (f:Nat→Int) (e:Nat):Nat→Nat→Nat
 | 0,p=>p
 | n+1,p=>if lL f e p=true then walk f e n (ay f p) else p
def aC (f:Nat→Int) (e p:Nat):Nat:=walk f e (e - p) p
theorem cW {f:Nat→Int} {p:Nat}:p < ay f p:=by unfold ay aM;omega
theorem zY {f:Nat→Int} {e:Nat}: ∀ (n k p:Nat),e - p≤n→walk f e (n+k) p=walk f e n p
 | 0,0,p,h=>rfl
 | 0,k+1,p,h=>by
  have:lL f e p=false:=by
   have:=cW (f:=f) (p:=p)
   unfold lL
   rw[decide_eq_false (by omega)]
   rfl
  rw[Nat.zero_add]
  simp[walk,this]
 | n+1,k,p,h=>by
  rw[Nat.add_right_comm]
  simp only[walk]
  split
  ·exact zY n k _ (by have:=cW (f:=f) (p:=p);omega)
  ·rfl
theorem jF {f:Nat→Int} {e p:Nat} (h:lL f e p=true):aC f e p=aC f e (ay f p):=by
 have h1:ay f p < e:=by
  unfold lL at h
  simp only[Bool.and_eq_true,decide_eq_true_eq]at h
  exact h.1.1
 have h2:=cW (f:=f) (p:=p)
 obtain ⟨n,hn⟩: ∃ n,e - p=n+1:=⟨e - p - 1,by omega⟩
 obtain ⟨k,hk⟩: ∃ k,n=(e - ay f p)+k:=⟨n - (e - ay f p),by omega⟩
 unfold aC
 rw[hn]
 simp only[walk,h,if_true]
 rw[hk,zY _ _ _ (Nat.le_refl _)]
theorem c8 {f:Nat→Int} {e p:Nat} (h:lL f e p=false):aC f e p=p:=by
 unfold aC
 cases e - p with
 | zero=>rfl
 | succ n=>simp[walk,h]
def bF (f:Nat→Int) (st p:Nat) (sv:SV):List SV:=aX st (ay f p) (bW (aF f p)) sv
def Uk (k:Nat) (f:Nat→Int) (e st:Nat) (sv:SV) (v:AV) (out:Nat→Option aG):Prop:=
 (aC f e st=st∧v=Ag (bF f st st sv)∧out=fun _=>none)∨
 (∃ c cs,bu cs 0 (bd (aF f (aC f e st))) (dc f (aC f e st))∧bd (aF f (aC f e st))≤c∧cs.all SV.plain=true∧v=Ag (bF f st (aC f e st) (.inr (.inr (k,0,bd (aF f (aC f e st)),c))))∧out=lk [(k,⟨true,cs⟩)])
def Nk (m:Nat) (f:Nat→Int) (pc nc kc ps:List SV):List (Nat×aG):=[(0,⟨false,[Sum.inr (.inr (4,0,m,m))]⟩),(1,⟨false,pc⟩),(2,⟨false,[Sum.inl (.slice none 0 0)]⟩),(3,⟨false,nc⟩),(4,⟨false,aA .u8 (64*m) f⟩),(5,⟨false,kc⟩),(6,⟨false,ps⟩)]
theorem IP {m:Nat} {f:Nat→Int} {pc nc kc ps:List SV}: ∀ n,n < 7→ ∃ c,lk (Nk m f pc nc kc ps) n=some c:=fun n hn=>by
 rcases (show n=0∨n=1∨n=2∨n=3∨n=4∨n=5∨n=6 by omega) with rfl | rfl | rfl | rfl | rfl | rfl | rfl<;>exact ⟨_,rfl⟩
theorem IQ {m:Nat} {f:Nat→Int} {pc nc kc ps:List SV} (h:fY pc nc kc) (hs:ps.all SV.plain=true): ∀ n c,lk (Nk m f pc nc kc ps) n=some c→n < 7∧ ∀ x ∈ c.cells,SV.ok (fun n=>n < 7) x:=fun n c hn=>by
 have h1:=bg _ _ _ hn
 simp only[Nk,cz,Prod.mk.injEq]at h1
 rcases h1 with ⟨rfl,rfl⟩ | ⟨rfl,rfl⟩ | ⟨rfl,rfl⟩ | ⟨rfl,rfl⟩ | ⟨rfl,rfl⟩ | ⟨rfl,rfl⟩ | ⟨rfl,rfl⟩
 ·exact ⟨by decide,fun x hx=>by rw[List.mem_singleton]at hx;subst hx;exact ⟨(by decide:4 < 7),rfl⟩⟩
 ·exact ⟨by decide,fun x hx=>SV.aI (fun n hn=>by subst hn;decide) (h.p x hx)⟩
 ·exact ⟨by decide,ai rfl⟩
 ·exact ⟨by decide,ai h.n⟩
 ·exact ⟨by decide,ai aD⟩
 ·exact ⟨by decide,ai h.k⟩
 ·exact ⟨by decide,ai hs⟩
theorem jL {s:AS} {nm m:Nat} {f:Nat→Int} {pc nc kc:List SV} (hd:m5 s (ju m f pc nc kc)) (h:fY pc nc kc) (hm:m≤1048576) {dst:Option Nat} {K:AS→Prop} (hk:K (s.put dst (some (I .i64 (m / 2:Nat))))):aB Tryd.prog nm 26 (some [Ag (eE 0 1 2 3)]) dst K s:=
 (m6 (f:=f) h hm).iB (fun n=>n) (hd.fits jj) rfl (fw _) hk
section
variable {a b c d x y z w:SV}
theorem QO:splice [a,b,c,d] 0 [x]=[x,b,c,d]:=rfl
theorem QP:splice [a,b,c,d] 1 [x]=[a,x,c,d]:=rfl
theorem QQ:splice [a,b,c,d] 2 [x,y]=[a,b,x,y]:=rfl
theorem QR:splice [a,b,c,d] 0 [x,y,z,w]=[x,y,z,w]:=rfl
end
theorem av:type_of% @QO∧type_of% @QP∧type_of% @QQ∧type_of% @QR∧type_of% @D5∧type_of% @D6∧type_of% @pF:=
 ⟨@QO, @QP, @QQ, @QR, @D5, @D6, @pF⟩
theorem Br {s:AS} {nm t n:Nat} {r0:Bool} {cs:List SV} {f:Nat→Int} {q:Int} {sv:SV} (hb:s.box t=some ⟨r0,cs⟩) (hl:cY t sv n f cs) (hs: ∀ M:Nat→Prop,SV.ok M sv→M t) (hp:cs.all SV.plain=true) (hn:n < 9223372036854775000) {ops:Array Oper} {i:Nat} {dst:Option Nat} {K:AS→Prop}
  (hk:K (s.put dst (some (I .i64 (aM n))))):qW Tryd.prog ops i nm 14 (some [Ag (bj q sv)]) dst K s:=by
 obtain ⟨s0,h0,h1⟩:=hl.jJ 0
 refine (sk (eY:=false) (q:=q) h0 hp hn).iC (fun _=>t) (dU hb hp) rfl ?_ (fun M hM n hn=>hs M ((hM (Ag (bj q sv)) (List.mem_singleton.2 rfl): ∀ x ∈ bj q sv,SV.ok M x) sv (by simp[bj]))) hk
 simp only[List.map_cons,List.map_nil,iJ,h1 (fun _=>t) rfl]
theorem uy {s:AS} {k q st p n c:Nat} {f:Nat→Int} {cs:List SV} {Post:AV→(Nat→Option aG)→Prop} (hq:k≤q) (hb:s.box q=some ⟨true,cs⟩) (hp:cs.all SV.plain=true)
  (h:Post (Ag (bF f st p (.inr (.inr (k,0,n,c))))) (lk [(k,⟨true,cs⟩)])):nA k Post (Ag (bF f st p (.inr (.inr (q,0,n,c))))) s:=by
 refine dD (q:=q) (v0:=Ag (bF f st p (.inr (.inr (k,0,n,c))))) hq ?_ (fx ⟨Nat.lt_succ_self k,rfl⟩) (fun y hy=> ?_) h
 ·unfold bF
  rw[kj]
  simp only[SV.ren,dT,jO]
 ·rw[List.mem_singleton]at hy
  subst hy
  exact ⟨Nat.lt_succ_self k,fun _=>rfl,ai hp,by rw[az hp,jO];exact hb⟩
def Bs:cp:=
 let e0:cp:=(.cons 9 .nil .nil)
 let e1:cp:=(.cons 8 e0 .nil)
 let e2:cp:=(.cons 7 e1 .nil)
 let e3:cp:=(.cons 6 e2 .nil)
 let e4:cp:=(.cons 5 e1 .nil)
 let e5:cp:=(.cons 5 e2 (.cons 7 e4 .nil))
 let e6:cp:=(.cons 5 e3 (.cons 6 e5 .nil))
 let e7:cp:=(.cons 4 e3 .nil)
 let e8:cp:=(.cons 4 e6 (.cons 5 e7 .nil))
 let e9:cp:=(.cons 3 e7 .nil)
 let XI:cp:=(.cons 3 e8 (.cons 5 e9 .nil))
 let Wj:cp:=(.cons 2 e9 .nil)
 let XJ:cp:=(.cons 2 XI (.cons 5 Wj .nil))
 let Vl:cp:=(.cons 1 e7 .nil)
 let Wk:cp:=(.cons 1 e8 (.cons 5 Vl .nil))
 let Wm:cp:=(.cons 1 e9 (.cons 3 Vl .nil))
 let XK:cp:=(.cons 1 XI (.cons 3 Wk (.cons 5 Wm .nil)))
 let XL:cp:=(.cons 1 Wj (.cons 2 Wm .nil))
 let Zb:cp:=(.cons 1 XJ (.cons 2 XK (.cons 5 XL .nil)))
 let XM:cp:=(.cons 0 Vl .nil)
 let Zc:cp:=(.cons 0 Wk (.cons 5 XM .nil))
 let XO:cp:=(.cons 0 Wm (.cons 3 XM .nil))
 let Zd:cp:=(.cons 0 XK (.cons 3 Zc (.cons 5 XO .nil)))
 let Ze:cp:=(.cons 0 XL (.cons 2 XO .nil))
 let Zf:cp:=(.cons 0 Zb (.cons 2 Zd (.cons 5 Ze .nil)))
 Zf
def w9 (e:Nat):List (Nat×AV):=[(3,Ptr 7 0),(6,Ptr 9 0),(7,Ptr 17 0),(8,I .i64 e)]
def xb (m:Nat) (f:Nat→Int) (pc nc kc ps:List SV) (l:List SV):List (Nat×aG):=[(0,⟨false,[Sum.inr (.inr (4,0,m,m))]⟩),(1,⟨false,pc⟩),(2,⟨false,[Sum.inl (.slice none 0 0)]⟩),(3,⟨false,nc⟩),(4,⟨false,aA .u8 (64*m) f⟩),(5,⟨false,kc⟩),(6,⟨false,ps⟩),(7,⟨true,eE 0 1 2 3⟩),(9,⟨true,[Sum.inl (.int .i64 0),Sum.inl (.int .i64 0),Sum.inl (.int .u64 0),Sum.inl (.slice none 0 0)]⟩),(17,⟨true,l⟩)]
theorem Eo {s:AS} {m st p q n c e:Nat} {f:Nat→Int} {pc nc kc ps cs:List SV} (hq:61≤q) (hd:fY pc nc kc) (hps:ps.all SV.plain=true) (hcs:cs.all SV.plain=true) (he: ∀ x ∈ w9 e,s.env x.1=some x.2) (hb: ∀ x ∈ xb m f pc nc kc ps (bF f st p (.inr (.inr (q,0,n,c)))),s.box x.1=some x.2) (hc:s.box q=some ⟨true,cs⟩):
  lh 24 s (nX (w9 e) ((60,⟨true,cs⟩)::xb m f pc nc kc ps (bF f st p (.inr (.inr (60,0,n,c))))) 61):=by
 have Zg:upd (fun n=>n) 60 q 60=q:=by simp[upd]
 refine Gu (by decide) hq (fun x hx=> ?_) (fun x hx=> ?_) hcs (fun x hx=> ?_) (fun x hx=> ?_) hc
 ·have h1:=he x hx
  simp only[w9,cz]at hx
  rcases hx with rfl | rfl | rfl | rfl<;>exact h1
 ·simp only[w9,cz]at hx
  rcases hx with rfl | rfl | rfl | rfl
  ·exact (by decide:7 < 61)
  ·exact (by decide:9 < 61)
  ·exact (by decide:17 < 61)
  ·trivial
 ·simp only[xb,cz,forall_eq_or_imp,forall_eq]at hb hx
  obtain ⟨g0,g1,g2,g3,g4,g5,g6,g7,g9,Zh⟩:=hb
  rcases hx with rfl | rfl | rfl | rfl | rfl | rfl | rfl | rfl | rfl | rfl
  ·exact ⟨false,g0,fun h=>h⟩
  ·exact ⟨false,by rw[oC fun x hx=>SV.aI (fun n hn=>by omega) (hd.p x hx)];exact g1,fun h=>h⟩
  ·exact ⟨false,g2,fun h=>h⟩
  ·exact ⟨false,by rw[az hd.n];exact g3,fun h=>h⟩
  ·exact ⟨false,by rw[az aD];exact g4,fun h=>h⟩
  ·exact ⟨false,by rw[az hd.k];exact g5,fun h=>h⟩
  ·exact ⟨false,by rw[az hps];exact g6,fun h=>h⟩
  ·exact ⟨true,by rw[oC (dg fun n hn=>by omega)];exact g7,fun h=>h⟩
  ·exact ⟨true,g9,fun h=>h⟩
  ·refine ⟨true,Zh.trans ?_,fun h=>h⟩
   simp only[bF,aX,List.map_cons,List.map_nil,SV.ren,dT,Zg]
 ·simp only[xb,cz]at hx
  rcases hx with rfl | rfl | rfl | rfl | rfl | rfl | rfl | rfl | rfl | rfl
  ·exact ⟨(by decide:0 < 60),fun y hy=>by rw[List.mem_singleton]at hy;subst hy;exact ⟨(by decide:4 < 61),rfl⟩⟩
  ·exact ⟨(by decide:1 < 60),fun x hx=>SV.aI (fun n hn=>by omega) (hd.p x hx)⟩
  ·exact ⟨(by decide:2 < 60),ai rfl⟩
  ·exact ⟨(by decide:3 < 60),ai hd.n⟩
  ·exact ⟨(by decide:4 < 60),ai aD⟩
  ·exact ⟨(by decide:5 < 60),ai hd.k⟩
  ·exact ⟨(by decide:6 < 60),ai hps⟩
  ·exact ⟨(by decide:7 < 60),dg fun n hn=>by omega⟩
  ·exact ⟨(by decide:9 < 60),ai rfl⟩
  ·exact ⟨(by decide:17 < 60),fx ⟨(by decide:60 < 61),rfl⟩⟩
theorem Gy {m st:Nat} {f pf:Nat→Int} {sv:SV} {pc nc kc ps:List SV} (h:fY pc nc kc) (hf:cU f) (hm:m≤8192) (he:st+m / 2≤m) (hr:okB f st (st+m / 2)=true) (hl:cY 6 sv (bd (aF f st)) pf ps) (Zi: ∀ M:Nat→Prop,SV.ok M sv→M 6) (hp:ps.all SV.plain=true):
  bC Tryd.prog 59 [Ag (eE 0 1 2 3),I .i64 st,Ag (bj (bW (aF f st)) sv)] 7 (lk (Nk m f pc nc kc ps)) (Uk 7 f (st+m / 2) st sv):=by
 refine bO Tryd.func59 rfl (by kernel_rfl) [6] [] (by simp[Tryd.ntmps59]) Tryd.qx (fun v hv=>by
  simp only[cz]at hv
  rcases hv with rfl | rfl | rfl
  ·exact dg fun n hn=>by omega
  ·trivial
  ·exact j8 (hl.ok (by decide))) IP (IQ h hp) ?_
 have hok: ∀ {M:Nat→Prop},M 6→SV.ok M sv:=fun h=>hl.ok h
 have hone:=(hl.ok (M:=fun n=>n < 7) (by decide)).2
 simp only[Tryd.results59,Nk,bj,da,seval]
 have Xm:bd (aF f st) < 4294967296:=by
  have:=jt (f:=fun i=>aF f st (9+i)) (fun i=>hf _) 4
  unfold bd Gv
  omega
 refine .inl ?_
 simp only[da,seval]
 refine ⟨by kernel_rfl, ?_⟩
 refine Br (t:=6) (r0:=false) (cs:=ps) (f:=pf) (by simp only[ae,vR,seval]) hl Zi hp (by omega) ?_
 have hn0:ay f st≤st+m / 2:=by
  have:=hr
  unfold okB gU at this
  simp only[Bool.and_eq_true,decide_eq_true_eq]at this
  unfold ay
  omega
 have w1:IntKind.i64.wrap ((st:Int)+((aM (bd (aF f st)):Nat):Int))=((ay f st:Nat):Int):=by
  unfold ay at hn0 ⊢
  rw[wrap_i64 _ (by omega) (by omega)];omega
 have w2:IntKind.i64.wrap ((st:Int)+((m / 2:Nat):Int))=((st+m / 2:Nat):Int):=by rw[wrap_i64 _ (by omega) (by omega)];omega
 simp only[wT hone,av,w1,da,seval]
 refine jL (dE m f (by simp only[ae,vR,seval]) (by simp only[ae,vR,seval]) (by simp only[ae,vR,seval]) (by simp only[ae,vR,seval]) (by simp only[ae,vR,seval]) (by simp only[ae,vR,seval])) h (by omega) ?_
 simp only[w2,av,da,seval]
 have Vi: ∀ {M:Nat→Prop},M 5→ ∀ x ∈ pc,SV.ok M x:=fun h5 x hx=>SV.aI (fun n hn=>by subst hn;exact h5) (h.p x hx)
 refine sj (m / 2) (fun k t=> ∃ p,st+k≤p∧okB f p (st+m / 2)=true∧aC f (st+m / 2) p=aC f (st+m / 2) st∧
  ((p=st∧t=nX (w9 (st+m / 2)) (xb m f pc nc kc ps (bF f st p sv)) 61)∨
   (∃ c cs,bu cs 0 (bd (aF f p)) (dc f p)∧bd (aF f p)≤c∧cs.all SV.plain=true∧t=nX (w9 (st+m / 2)) ((60,⟨true,cs⟩)::xb m f pc nc kc ps (bF f st p (.inr (.inr (60,0,bd (aF f p),c))))) 61))) ?_ ?_ ?_ ?_
 ·rintro k t ⟨p,_,_,_,⟨_,rfl⟩ | ⟨_,_,_,_,_,rfl⟩⟩<;>(show (24:Nat)≤61;decide)
 ·refine ⟨_,⟨st,Nat.le_refl _,hr,rfl, .inl ⟨rfl,rfl⟩⟩,dx.nC ?_⟩
  simp only[w9,xb,bF,aX,av,da,seval]
  exact ⟨⟨(by decide:4 < 61),rfl⟩,Vi (by decide),⟨trivial,rfl⟩,ai h.n,ai h.k,ai hp,dg fun n hn=>by omega,⟨trivial,rfl⟩,hok (by decide)⟩
 ·rintro k t hk ⟨p,hpk,RW,RX,hI⟩
  have JB:ay f p≤st+m / 2:=by
   have:=RW
   unfold okB gU at this
   simp only[Bool.and_eq_true,decide_eq_true_eq]at this
   have h4:=this.1.2
   unfold ay
   unfold aM at h4 ⊢
   omega
  have Xr:=cW (f:=f) (p:=p)
  have Vm:gU f (ay f p) (st+m / 2)=true→(bW (aF f (ay f p)) != IntKind.u64.wrap (bW (aF f p)+1))= !decide (bW (aF f (ay f p))=bW (aF f p)+1):=fun hr1=>by
   have b1:=jt (f:=fun i=>aF f (ay f p) (1+i)) (fun i=>hf _) 8
   have b2:=jt (f:=fun i=>aF f p (1+i)) (fun i=>hf _) 8
   have b3:bW (aF f (ay f p))≠0:=fun h0=>by simp[gU,h0]at hr1
   change 0≤bW _∧bW _ < _ at b1
   change 0≤bW _∧bW _ < _ at b2
   rw[show (256:Int)^8=18446744073709551616 by decide]at b1 b2
   by_cases h1:bW (aF f p)+1 < 18446744073709551616
   ·rw[cI _ (by omega) (by omega)]
    rfl
   ·have h2:bW (aF f p)+1=18446744073709551616:=by omega
    rw[h2,show IntKind.u64.wrap 18446744073709551616=0 by decide]
    rw[decide_eq_false (by omega)]
    simpa using b3
  rcases hI with ⟨hps,rfl⟩ | ⟨c,cs,g1,g2,g3,rfl⟩
  ·skip
   by_cases hlt:ay f p < st+m / 2
   ·have d1:(((ay f p:Nat):Int) < ((st+m / 2:Nat):Int))=True:=eq_true (by omega)
    simp only[d1,decide_true,w9,xb,bF,aX,dQ,bj,eu,Bool.not_true,Bool.not_false,av,da,seval]
    refine gV (a:=ay f p) (e:=st+m / 2) (dE m f (by simp only[ae,vR,seval]) (by simp only[ae,vR,seval]) (by simp only[ae,vR,seval]) (by simp only[ae,vR,seval]) (by simp only[ae,vR,seval]) (by simp only[ae,vR,seval])) h hf hm hlt he rfl rfl (fun hr0=> ?_) fun hr1 c' cs' k1 k2 k3=> ?_
    ·have nz:lL f (st+m / 2) p=false:=by simp[lL,okB,hr0]
     simp only[w9,xb,bF,aX,dQ,bj,eu,Bool.not_true,Bool.not_false,aE,av,da,seval]
     exact oD (fx (hok (by decide))) (.inl ⟨by rw[hps]at nz;exact c8 nz,by rw[hps];rfl,rfl⟩)
    ·simp only[w9,xb,bF,aX,dQ,bj,eu,Bool.not_true,Bool.not_false,aE,av,da,seval]
     by_cases Nl:fS f (ay f p)=true
     ·by_cases hq:bW (aF f (ay f p))=bW (aF f p)+1
      ·have e1:=(Vm hr1).trans (congrArg not (decide_eq_true hq))
       simp only[e1,Nl,Bool.not_true,Bool.not_false,w9,xb,bF,aX,dQ,bj,eu,aE,av,da,seval]
       refine jC (by kernel_rfl) [] [] [] [0,1,2,3,4,5,6,7,8,9] [] [] [45,46,47,48,49,50,51,52] Bs (by kernel_rfl) (by kernel_rfl) (by kernel_rfl) (by kernel_rfl) (fun t ht=>(by cases ht)) ?_
       have dP:okB f (ay f p) (st+m / 2)=true:=by simp[okB,hr1,Nl]
       have nz:lL f (st+m / 2) p=true:=by simp[lL,hlt,dP,hq]
       have hn2:ay f (ay f p)≤st+m / 2:=by
        have:=hr1
        unfold gU at this
        simp only[Bool.and_eq_true,decide_eq_true_eq]at this
        have h4:=this.2
        unfold ay at*
        omega
       have w3:IntKind.i64.wrap (((ay f p:Nat):Int)+((aM (bd (aF f (ay f p))):Nat):Int))=((ay f (ay f p):Nat):Int):=by
        have e:ay f (ay f p)=ay f p+aM (bd (aF f (ay f p))):=rfl
        rw[e]at hn2 ⊢
        rw[wrap_i64 _ (by omega) (by omega)];omega
       have K6:cY 69 (.inr (.inr (69,0,bd (aF f (ay f p)),c'))) (bd (aF f (ay f p))) (dc f (ay f p)) cs':= .inr ⟨0,c',rfl,k2,k1⟩
       have Ih:bd (aF f (ay f p)) < 4294967296:=by
        have:=jt (f:=fun i=>aF f (ay f p) (9+i)) (fun i=>hf _) 4
        unfold bd Gv
        omega
       simp only[Bs,gL,av,da,seval]
       repeat' (refine And.intro ?_ ?_)
       all_goals
        refine j9 (t:=69) (eY:=true) (cs:=cs') (f:=dc f (ay f p)) ?_ K6 k3 (by omega) ?_
       all_goals
        first | (simp only[gL,ae,vR,seval];done) | skip
       all_goals
        simp only[w3,gL,av,da,seval]
       repeat' (refine And.intro ?_ ?_)
       all_goals
        refine ⟨_,⟨ay f p,by omega,dP,(jF nz).symm.trans RX, .inr ⟨c',cs',k1,k2,k3,rfl⟩⟩,Eo (q:=69) (by decide) h hp k3 ?_ ?_ ?_⟩
       all_goals
        simp only[w9,xb,bF,aX,bj,gL,av,da,seval]
      ·have e1:=(Vm hr1).trans (congrArg not (decide_eq_false hq))
       have nz:lL f (st+m / 2) p=false:=by simp[lL,hq]
       simp only[e1,Nl,Bool.not_true,Bool.not_false,w9,xb,bF,aX,dQ,bj,eu,aE,av,da,seval]
       exact oD (fx (hok (by decide))) (.inl ⟨by rw[hps]at nz;exact c8 nz,by rw[hps];rfl,rfl⟩)
     ·have Nm:fS f (ay f p)=false:=by simpa using Nl
      have nz:lL f (st+m / 2) p=false:=by simp[lL,okB,Nm]
      simp only[Nm,Bool.not_true,Bool.not_false,w9,xb,bF,aX,dQ,bj,eu,aE,av,da,seval]
      exact oD (fx (hok (by decide))) (.inl ⟨by rw[hps]at nz;exact c8 nz,by rw[hps];rfl,rfl⟩)
   ·have d1:(((ay f p:Nat):Int) < ((st+m / 2:Nat):Int))=False:=eq_false (by omega)
    have nz:lL f (st+m / 2) p=false:=by simp[lL,hlt]
    simp only[d1,decide_false,w9,xb,bF,aX,dQ,bj,eu,Bool.not_true,Bool.not_false,av,da,seval]
    exact oD (fx (hok (by decide))) (.inl ⟨by rw[hps]at nz;exact c8 nz,by rw[hps];rfl,rfl⟩)
  ·skip
   by_cases hlt:ay f p < st+m / 2
   ·have d1:(((ay f p:Nat):Int) < ((st+m / 2:Nat):Int))=True:=eq_true (by omega)
    simp only[d1,decide_true,w9,xb,bF,aX,dQ,bj,eu,Bool.not_true,Bool.not_false,av,da,seval]
    refine gV (a:=ay f p) (e:=st+m / 2) (dE m f (by simp only[ae,vR,seval]) (by simp only[ae,vR,seval]) (by simp only[ae,vR,seval]) (by simp only[ae,vR,seval]) (by simp only[ae,vR,seval]) (by simp only[ae,vR,seval])) h hf hm hlt he rfl rfl (fun hr0=> ?_) fun hr1 c' cs' k1 k2 k3=> ?_
    ·have nz:lL f (st+m / 2) p=false:=by simp[lL,okB,hr0]
     simp only[w9,xb,bF,aX,dQ,bj,eu,Bool.not_true,Bool.not_false,aE,av,da,seval]
     exact uy (by decide) (by simp only[ae,vR,seval]) g3 (.inr ⟨c,cs,by rw[← RX,c8 nz];exact ⟨g1,g2,g3,rfl,rfl⟩⟩)
    ·simp only[w9,xb,bF,aX,dQ,bj,eu,Bool.not_true,Bool.not_false,aE,av,da,seval]
     by_cases Nl:fS f (ay f p)=true
     ·by_cases hq:bW (aF f (ay f p))=bW (aF f p)+1
      ·have e1:=(Vm hr1).trans (congrArg not (decide_eq_true hq))
       simp only[e1,Nl,Bool.not_true,Bool.not_false,w9,xb,bF,aX,dQ,bj,eu,aE,av,da,seval]
       refine jC (by kernel_rfl) [] [] [] [0,1,2,3,4,5,6,7,8,9] [] [] [45,46,47,48,49,50,51,52] Bs (by kernel_rfl) (by kernel_rfl) (by kernel_rfl) (by kernel_rfl) (fun t ht=>(by cases ht)) ?_
       have dP:okB f (ay f p) (st+m / 2)=true:=by simp[okB,hr1,Nl]
       have nz:lL f (st+m / 2) p=true:=by simp[lL,hlt,dP,hq]
       have hn2:ay f (ay f p)≤st+m / 2:=by
        have:=hr1
        unfold gU at this
        simp only[Bool.and_eq_true,decide_eq_true_eq]at this
        have h4:=this.2
        unfold ay at*
        omega
       have w3:IntKind.i64.wrap (((ay f p:Nat):Int)+((aM (bd (aF f (ay f p))):Nat):Int))=((ay f (ay f p):Nat):Int):=by
        have e:ay f (ay f p)=ay f p+aM (bd (aF f (ay f p))):=rfl
        rw[e]at hn2 ⊢
        rw[wrap_i64 _ (by omega) (by omega)];omega
       have K6:cY 69 (.inr (.inr (69,0,bd (aF f (ay f p)),c'))) (bd (aF f (ay f p))) (dc f (ay f p)) cs':= .inr ⟨0,c',rfl,k2,k1⟩
       have Ih:bd (aF f (ay f p)) < 4294967296:=by
        have:=jt (f:=fun i=>aF f (ay f p) (9+i)) (fun i=>hf _) 4
        unfold bd Gv
        omega
       simp only[Bs,gL,av,da,seval]
       repeat' (refine And.intro ?_ ?_)
       all_goals
        refine j9 (t:=69) (eY:=true) (cs:=cs') (f:=dc f (ay f p)) ?_ K6 k3 (by omega) ?_
       all_goals
        first | (simp only[gL,ae,vR,seval];done) | skip
       all_goals
        simp only[w3,gL,av,da,seval]
       repeat' (refine And.intro ?_ ?_)
       all_goals
        refine ⟨_,⟨ay f p,by omega,dP,(jF nz).symm.trans RX, .inr ⟨c',cs',k1,k2,k3,rfl⟩⟩,Eo (q:=69) (by decide) h hp k3 ?_ ?_ ?_⟩
       all_goals
        simp only[w9,xb,bF,aX,bj,gL,av,da,seval]
      ·have e1:=(Vm hr1).trans (congrArg not (decide_eq_false hq))
       have nz:lL f (st+m / 2) p=false:=by simp[lL,hq]
       simp only[e1,Nl,Bool.not_true,Bool.not_false,w9,xb,bF,aX,dQ,bj,eu,aE,av,da,seval]
       exact uy (by decide) (by simp only[ae,vR,seval]) g3 (.inr ⟨c,cs,by rw[← RX,c8 nz];exact ⟨g1,g2,g3,rfl,rfl⟩⟩)
     ·have Nm:fS f (ay f p)=false:=by simpa using Nl
      have nz:lL f (st+m / 2) p=false:=by simp[lL,okB,Nm]
      simp only[Nm,Bool.not_true,Bool.not_false,w9,xb,bF,aX,dQ,bj,eu,aE,av,da,seval]
      exact uy (by decide) (by simp only[ae,vR,seval]) g3 (.inr ⟨c,cs,by rw[← RX,c8 nz];exact ⟨g1,g2,g3,rfl,rfl⟩⟩)
   ·have d1:(((ay f p:Nat):Int) < ((st+m / 2:Nat):Int))=False:=eq_false (by omega)
    have nz:lL f (st+m / 2) p=false:=by simp[lL,hlt]
    simp only[d1,decide_false,w9,xb,bF,aX,dQ,bj,eu,Bool.not_true,Bool.not_false,av,da,seval]
    exact uy (by decide) (by simp only[ae,vR,seval]) g3 (.inr ⟨c,cs,by rw[← RX,c8 nz];exact ⟨g1,g2,g3,rfl,rfl⟩⟩)
 ·rintro t ⟨p,hpk,RW,RX,hI⟩
  exfalso
  have:=RW
  unfold okB gU at this
  simp only[Bool.and_eq_true,decide_eq_true_eq]at this
  have h4:=this.1.2
  unfold aM at h4
  omega
theorem RY {m:Nat} {f:Nat→Int} {pc nc kc ps:List SV}: ∀ x ∈ Nk m f pc nc kc ps,x.2.rw=false:=fun x hx=>by
 simp only[Nk,cz]at hx
 rcases hx with rfl | rfl | rfl | rfl | rfl | rfl | rfl<;>rfl
theorem xc {s:AS} {m t:Nat} {f:Nat→Int} {pc nc kc ps:List SV} {eY:Bool} (hd:m5 s (ju m f pc nc kc)) (h:fY pc nc kc) (hb:s.box t=some ⟨eY,ps⟩) (hp:ps.all SV.plain=true):Fits s (six t) (lk (Nk m f pc nc kc ps)) none:=
 qE fun x hx=>⟨RY x hx,by
  have g:=fun y hy=>hd y hy
  simp only[ju,cz,forall_eq_or_imp,forall_eq]at g
  obtain ⟨⟨r0,g0⟩,⟨r1,g1⟩,⟨r2,g2⟩,⟨r3,g3⟩,⟨r4,g4⟩,⟨r5,g5⟩⟩:=g
  simp only[Nk,cz]at hx
  rcases hx with rfl | rfl | rfl | rfl | rfl | rfl | rfl
  ·exact ⟨_,g0⟩
  ·exact ⟨_,by rw[wV h.p];exact g1⟩
  ·exact ⟨_,g2⟩
  ·exact ⟨_,by rw[az h.n];exact g3⟩
  ·exact ⟨_,by rw[az aD];exact g4⟩
  ·exact ⟨_,by rw[az h.k];exact g5⟩
  ·exact ⟨eY,by rw[az hp];exact hb⟩⟩
theorem lM {w:Nat}:AV.ren (six w) (Ag (eE 0 1 2 3))=Ag (eE 0 1 2 3):=rfl
theorem fT {s:AS} {nm m st t c0:Nat} {f:Nat→Int} {eY:Bool} {pc nc kc ps:List SV} (hd:m5 s (ju m f pc nc kc)) (h:fY pc nc kc) (hf:cU f) (hm:m≤8192) (he:st+m / 2≤m) (hr:okB f st (st+m / 2)=true)
  (hb:s.box t=some ⟨eY,ps⟩) (hs:bu ps 0 (bd (aF f st)) (dc f st)) (hc:bd (aF f st)≤c0) (hp:ps.all SV.plain=true) {x q:Int} (hx:x=(st:Int)) (hq:q=bW (aF f st)) {dst:Option Nat} {K:AS→Prop}
  (h0:aC f (st+m / 2) st=st→K (s.put dst (some (Ag (bF f st st (.inr (.inr (t,0,bd (aF f st),c0))))))))
  (h1: ∀ c cs,bu cs 0 (bd (aF f (aC f (st+m / 2) st))) (dc f (aC f (st+m / 2) st))→bd (aF f (aC f (st+m / 2) st))≤c→cs.all SV.plain=true→
   K (({ s with box:=upd s.box nm (some ⟨true,cs⟩) }:AS).put dst (some (Ag (bF f st (aC f (st+m / 2) st) (.inr (.inr (nm,0,bd (aF f (aC f (st+m / 2) st)),c)))))))):
  aB Tryd.prog nm 59 (some [Ag (eE 0 1 2 3),I .i64 x,Ag (bj q (.inr (.inr (t,0,bd (aF f st),c0))))]) dst K s:=by
 subst hx
 subst hq
 refine (Gy (sv:= .inr (.inr (6,0,bd (aF f st),c0))) (pf:=dc f st) h hf hm he hr (.inr ⟨0,c0,rfl,hc,hs⟩) (fun M hM=>hM.1) hp).aB (six t) none (xc hd h hb hp) ?_ ?_
 ·simp only[List.map_cons,List.map_nil,lM,iJ,jP,SV.ren,dT]
  rfl
 ·rintro v out (⟨e,rfl,rfl⟩ | ⟨c,cs,g1,g2,g3,rfl,rfl⟩) _
  ·rw[jm]
   have e2:AV.ren (dy (six t) 7 nm) (Ag (bF f st st (.inr (.inr (6,0,bd (aF f st),c0)))))=Ag (bF f st st (.inr (.inr (t,0,bd (aF f st),c0)))):=by
    unfold bF
    rw[kj]
    rfl
   rw[e2]
   exact h0 e
  ·rw[dv g3]
   have e2:AV.ren (dy (six t) 7 nm) (Ag (bF f st (aC f (st+m / 2) st) (.inr (.inr (7,0,bd (aF f (aC f (st+m / 2) st)),c)))))=Ag (bF f st (aC f (st+m / 2) st) (.inr (.inr (nm,0,bd (aF f (aC f (st+m / 2) st)),c)))):=by
    unfold bF
    rw[kj]
    simp only[SV.ren,dT,gl]
   rw[e2]
   exact h1 c cs g1 g2 g3
def cX (f:Nat→Int) (r:Nat):Option Nat:=
 if okB f r (2*r)=true∧(okB f 0 r=false∨bW (aF f 0) < bW (aF f r)) then some r else if okB f 0 r=true then some 0 else none
def jG:List SV:=[Sum.inl (.int .i64 0),Sum.inl (.int .i64 0),Sum.inl (.int .u64 0),Sum.inl (.slice none 0 0)]
def Gz (k:Nat) (f:Nat→Int) (r:Nat) (v:AV) (out:Nat→Option aG):Prop:=
 (cX f r=none∧v=cK jG (bR 1)∧out=fun _=>none)∨
 (∃ st c cs,cX f r=some st∧bu cs 0 (bd (aF f (aC f (st+r) st))) (dc f (aC f (st+r) st))∧bd (aF f (aC f (st+r) st))≤c∧cs.all SV.plain=true∧v=cK (bF f st (aC f (st+r) st) (.inr (.inr (k,0,bd (aF f (aC f (st+r) st)),c)))) .nilIface∧out=lk [(k,⟨true,cs⟩)])
theorem Ep {s:AS} {k q st p n c:Nat} {f:Nat→Int} {cs:List SV} {Post:AV→(Nat→Option aG)→Prop} (hq:k≤q) (hb:s.box q=some ⟨true,cs⟩) (hp:cs.all SV.plain=true)
  (h:Post (cK (bF f st p (.inr (.inr (k,0,n,c)))) .nilIface) (lk [(k,⟨true,cs⟩)])):nA k Post (cK (bF f st p (.inr (.inr (q,0,n,c)))) .nilIface) s:=by
 refine dD (q:=q) (v0:=cK (bF f st p (.inr (.inr (k,0,n,c)))) .nilIface) hq ?_ (IJ (fx ⟨Nat.lt_succ_self k,rfl⟩) trivial) (fun y hy=> ?_) h
 ·simp only[cK,bF,aX,AV.ren,CV.ren,List.map_cons,List.map_nil,SV.ren,dT,jO]
 ·rw[List.mem_singleton]at hy
  subst hy
  exact ⟨Nat.lt_succ_self k,fun _=>rfl,ai hp,by rw[az hp,jO];exact hb⟩
theorem Kp {m:Nat} {f:Nat→Int} {pc nc kc:List SV} (h:fY pc nc kc) (hf:cU f) (hm:m≤8192) (h2:2≤m):
  bC Tryd.prog 46 [Ag (eE 0 1 2 3)] 6 (lk (ju m f pc nc kc)) (Gz 6 f (m / 2)):=by
 refine bO Tryd.func46 rfl (by kernel_rfl) [8] [] (by simp[Tryd.ntmps46]) Tryd.qo (fun v hv=>by rw[List.mem_singleton]at hv;subst hv;exact dg fun n hn=>by omega) ke (kg h) ?_
 simp only[Tryd.results46,ju,av,da,seval]
 refine jL (dE m f (by simp only[ae,vR,seval]) (by simp only[ae,vR,seval]) (by simp only[ae,vR,seval]) (by simp only[ae,vR,seval]) (by simp only[ae,vR,seval]) (by simp only[ae,vR,seval])) h (by omega) ?_
 have w2:IntKind.i64.wrap (2*((m / 2:Nat):Int))=((2*(m / 2):Nat):Int):=by rw[wrap_i64 _ (by omega) (by omega)];omega
 simp only[w2,av,da,seval]
 have fZ: ∀ {s:AS},cX f (m / 2)=none→nA 6 (Gz 6 f (m / 2)) (cK jG (bR 1)) s:=fun {s} hr=>aL rfl (.inl ⟨hr,rfl,rfl⟩)
 have uh: ∀ {s:AS} {st p q c:Nat} {cs:List SV},cX f (m / 2)=some st→p=aC f (st+m / 2) st→6≤q→s.box q=some ⟨true,cs⟩→bu cs 0 (bd (aF f p)) (dc f p)→bd (aF f p)≤c→cs.all SV.plain=true→
   nA 6 (Gz 6 f (m / 2)) (cK (bF f st p (.inr (.inr (q,0,bd (aF f p),c)))) .nilIface) s:=fun {s st p q c cs} hl hp hq hb g1 g2 g3=>by
  subst hp
  exact Ep hq hb g3 (.inr ⟨st,c,cs,hl,g1,g2,g3,rfl,rfl⟩)
 have em:m / 2+m / 2=2*(m / 2):=by omega
 have ez:0+m / 2=m / 2:=Nat.zero_add _
 refine gV (a:=0) (e:=m / 2) (dE m f (by simp only[ae,vR,seval]) (by simp only[ae,vR,seval]) (by simp only[ae,vR,seval]) (by simp only[ae,vR,seval]) (by simp only[ae,vR,seval]) (by simp only[ae,vR,seval])) h hf hm (by omega) (by omega) rfl rfl (fun hz=> ?_) fun hz c0 cs0 z1 z2 z3=> ?_
 ·have bz:okB f 0 (m / 2)=false:=by simp[okB,hz]
  simp only[dQ,eu,bj,bF,aX,w2,Bool.not_true,Bool.not_false,av,da,seval]
  refine gV (a:=m / 2) (e:=2*(m / 2)) (dE m f (by simp only[ae,vR,seval]) (by simp only[ae,vR,seval]) (by simp only[ae,vR,seval]) (by simp only[ae,vR,seval]) (by simp only[ae,vR,seval]) (by simp only[ae,vR,seval])) h hf hm (by omega) (by omega) rfl rfl (fun ho=> ?_) fun ho c1 wB o1 o2 o3=> ?_
  ·have bo:okB f (m / 2) (2*(m / 2))=false:=by simp[okB,ho]
   have hl:cX f (m / 2)=none:=by simp[cX,bo,bz]
   simp only[dQ,eu,bj,bF,aX,w2,Bool.not_true,Bool.not_false,av,da,seval]
   refine jC (by kernel_rfl) [] [] [] [0,1,2,3] [] [] [47,48,3] nt (by kernel_rfl) (by kernel_rfl) (by kernel_rfl) (by kernel_rfl) (fun t ht=>(by cases ht)) ?_
   simp only[nt,gL,av,Tryd.bt,da,seval]
   first | exact fZ hl | exact ⟨fZ hl,fZ hl⟩ | exact ⟨⟨fZ hl,fZ hl⟩,fZ hl⟩ | exact ⟨fZ hl,fZ hl,fZ hl⟩
  ·by_cases fo:fS f (m / 2)=true
   ·have bo:okB f (m / 2) (2*(m / 2))=true:=by simp[okB,ho,fo]
    have hl:cX f (m / 2)=some (m / 2):=by simp[cX,bo,bz]
    simp only[fo,dQ,eu,bj,bF,aX,w2,Bool.not_true,Bool.not_false,av,da,seval]
    refine fT (st:=m / 2) (t:=25) (eY:=true) (dE m f (by simp only[ae,vR,seval]) (by simp only[ae,vR,seval]) (by simp only[ae,vR,seval]) (by simp only[ae,vR,seval]) (by simp only[ae,vR,seval]) (by simp only[ae,vR,seval])) h hf hm (by omega) (by rw[em];exact bo) (by simp only[ae,vR,seval]) o1 o2 o3 rfl rfl (fun e=> ?_) fun c cs g1 g2 g3=> ?_
    ·simp only[dQ,eu,bj,bF,aX,w2,Bool.not_true,Bool.not_false,av,da,seval]
     exact uh hl e.symm (by decide) (by simp only[ae,vR,seval]) o1 o2 o3
    ·simp only[dQ,eu,bj,bF,aX,w2,Bool.not_true,Bool.not_false,av,da,seval]
     exact uh hl rfl (by decide) (by simp only[ae,vR,seval]) g1 g2 g3
   ·have SG:fS f (m / 2)=false:=by simpa using fo
    have bo:okB f (m / 2) (2*(m / 2))=false:=by simp[okB,SG]
    have hl:cX f (m / 2)=none:=by simp[cX,bo,bz]
    simp only[SG,dQ,eu,bj,bF,aX,w2,Bool.not_true,Bool.not_false,av,da,seval]
    refine jC (by kernel_rfl) [] [] [] [0,1,2,3] [] [] [47,48,3] nt (by kernel_rfl) (by kernel_rfl) (by kernel_rfl) (by kernel_rfl) (fun t ht=>(by cases ht)) ?_
    simp only[nt,gL,av,Tryd.bt,da,seval]
    first | exact fZ hl | exact ⟨fZ hl,fZ hl⟩ | exact ⟨⟨fZ hl,fZ hl⟩,fZ hl⟩ | exact ⟨fZ hl,fZ hl,fZ hl⟩
 ·simp only[dQ,eu,bj,bF,aX,w2,Bool.not_true,Bool.not_false,av,da,seval]
  refine gV (a:=m / 2) (e:=2*(m / 2)) (dE m f (by simp only[ae,vR,seval]) (by simp only[ae,vR,seval]) (by simp only[ae,vR,seval]) (by simp only[ae,vR,seval]) (by simp only[ae,vR,seval]) (by simp only[ae,vR,seval])) h hf hm (by omega) (by omega) rfl rfl (fun ho=> ?_) fun ho c1 wB o1 o2 o3=> ?_
  ·have bo:okB f (m / 2) (2*(m / 2))=false:=by simp[okB,ho]
   by_cases fz:fS f 0=true
   ·have bz:okB f 0 (m / 2)=true:=by simp[okB,hz,fz]
    have hl:cX f (m / 2)=some 0:=by simp[cX,bo,bz]
    simp only[fz,dQ,eu,bj,bF,aX,w2,Bool.not_true,Bool.not_false,av,da,seval]
    refine fT (st:=0) (t:=14) (eY:=true) (dE m f (by simp only[ae,vR,seval]) (by simp only[ae,vR,seval]) (by simp only[ae,vR,seval]) (by simp only[ae,vR,seval]) (by simp only[ae,vR,seval]) (by simp only[ae,vR,seval])) h hf hm (by omega) (by rw[ez];exact bz) (by simp only[ae,vR,seval]) z1 z2 z3 rfl rfl (fun e=> ?_) fun c cs g1 g2 g3=> ?_
    ·simp only[dQ,eu,bj,bF,aX,w2,Bool.not_true,Bool.not_false,av,da,seval]
     exact uh hl e.symm (by decide) (by simp only[ae,vR,seval]) z1 z2 z3
    ·rw[ez]at g1 g2
     simp only[dQ,eu,bj,bF,aX,w2,Bool.not_true,Bool.not_false,av,da,seval]
     exact uh hl (by rw[ez]) (by decide) (by simp only[ae,vR,seval]) g1 g2 g3
   ·have QS:fS f 0=false:=by simpa using fz
    have bz:okB f 0 (m / 2)=false:=by simp[okB,QS]
    have hl:cX f (m / 2)=none:=by simp[cX,bo,bz]
    simp only[QS,dQ,eu,bj,bF,aX,w2,Bool.not_true,Bool.not_false,av,da,seval]
    refine jC (by kernel_rfl) [] [] [] [0,1,2,3] [] [] [47,48,3] nt (by kernel_rfl) (by kernel_rfl) (by kernel_rfl) (by kernel_rfl) (fun t ht=>(by cases ht)) ?_
    simp only[nt,gL,av,Tryd.bt,da,seval]
    first | exact fZ hl | exact ⟨fZ hl,fZ hl⟩ | exact ⟨⟨fZ hl,fZ hl⟩,fZ hl⟩ | exact ⟨fZ hl,fZ hl,fZ hl⟩
  ·by_cases fo:fS f (m / 2)=true
   ·have bo:okB f (m / 2) (2*(m / 2))=true:=by simp[okB,ho,fo]
    by_cases fz:fS f 0=true
    ·have bz:okB f 0 (m / 2)=true:=by simp[okB,hz,fz]
     by_cases hq:bW (aF f 0) < bW (aF f (m / 2))
     ·have hl:cX f (m / 2)=some (m / 2):=by simp[cX,bo,hq]
      simp only[fo,fz,hq,decide_true,dQ,eu,bj,bF,aX,w2,Bool.not_true,Bool.not_false,av,da,seval]
      refine fT (st:=m / 2) (t:=25) (eY:=true) (dE m f (by simp only[ae,vR,seval]) (by simp only[ae,vR,seval]) (by simp only[ae,vR,seval]) (by simp only[ae,vR,seval]) (by simp only[ae,vR,seval]) (by simp only[ae,vR,seval])) h hf hm (by omega) (by rw[em];exact bo) (by simp only[ae,vR,seval]) o1 o2 o3 rfl rfl (fun e=> ?_) fun c cs g1 g2 g3=> ?_
      ·simp only[dQ,eu,bj,bF,aX,w2,Bool.not_true,Bool.not_false,av,da,seval]
       exact uh hl e.symm (by decide) (by simp only[ae,vR,seval]) o1 o2 o3
      ·simp only[dQ,eu,bj,bF,aX,w2,Bool.not_true,Bool.not_false,av,da,seval]
       exact uh hl rfl (by decide) (by simp only[ae,vR,seval]) g1 g2 g3
     ·have hl:cX f (m / 2)=some 0:=by simp[cX,bo,bz,hq]
      simp only[fo,fz,hq,decide_false,dQ,eu,bj,bF,aX,w2,Bool.not_true,Bool.not_false,av,da,seval]
      refine fT (st:=0) (t:=14) (eY:=true) (dE m f (by simp only[ae,vR,seval]) (by simp only[ae,vR,seval]) (by simp only[ae,vR,seval]) (by simp only[ae,vR,seval]) (by simp only[ae,vR,seval]) (by simp only[ae,vR,seval])) h hf hm (by omega) (by rw[ez];exact bz) (by simp only[ae,vR,seval]) z1 z2 z3 rfl rfl (fun e=> ?_) fun c cs g1 g2 g3=> ?_
      ·simp only[dQ,eu,bj,bF,aX,w2,Bool.not_true,Bool.not_false,av,da,seval]
       exact uh hl e.symm (by decide) (by simp only[ae,vR,seval]) z1 z2 z3
      ·rw[ez]at g1 g2
       simp only[dQ,eu,bj,bF,aX,w2,Bool.not_true,Bool.not_false,av,da,seval]
       exact uh hl (by rw[ez]) (by decide) (by simp only[ae,vR,seval]) g1 g2 g3
    ·have QS:fS f 0=false:=by simpa using fz
     have bz:okB f 0 (m / 2)=false:=by simp[okB,QS]
     have hl:cX f (m / 2)=some (m / 2):=by simp[cX,bo,bz]
     simp only[fo,QS,dQ,eu,bj,bF,aX,w2,Bool.not_true,Bool.not_false,av,da,seval]
     refine fT (st:=m / 2) (t:=25) (eY:=true) (dE m f (by simp only[ae,vR,seval]) (by simp only[ae,vR,seval]) (by simp only[ae,vR,seval]) (by simp only[ae,vR,seval]) (by simp only[ae,vR,seval]) (by simp only[ae,vR,seval])) h hf hm (by omega) (by rw[em];exact bo) (by simp only[ae,vR,seval]) o1 o2 o3 rfl rfl (fun e=> ?_) fun c cs g1 g2 g3=> ?_
     ·simp only[dQ,eu,bj,bF,aX,w2,Bool.not_true,Bool.not_false,av,da,seval]
      exact uh hl e.symm (by decide) (by simp only[ae,vR,seval]) o1 o2 o3
     ·simp only[dQ,eu,bj,bF,aX,w2,Bool.not_true,Bool.not_false,av,da,seval]
      exact uh hl rfl (by decide) (by simp only[ae,vR,seval]) g1 g2 g3
   ·have SG:fS f (m / 2)=false:=by simpa using fo
    have bo:okB f (m / 2) (2*(m / 2))=false:=by simp[okB,SG]
    by_cases fz:fS f 0=true
    ·have bz:okB f 0 (m / 2)=true:=by simp[okB,hz,fz]
     have hl:cX f (m / 2)=some 0:=by simp[cX,bo,bz]
     simp only[SG,fz,dQ,eu,bj,bF,aX,w2,Bool.not_true,Bool.not_false,av,da,seval]
     refine fT (st:=0) (t:=14) (eY:=true) (dE m f (by simp only[ae,vR,seval]) (by simp only[ae,vR,seval]) (by simp only[ae,vR,seval]) (by simp only[ae,vR,seval]) (by simp only[ae,vR,seval]) (by simp only[ae,vR,seval])) h hf hm (by omega) (by rw[ez];exact bz) (by simp only[ae,vR,seval]) z1 z2 z3 rfl rfl (fun e=> ?_) fun c cs g1 g2 g3=> ?_
     ·simp only[dQ,eu,bj,bF,aX,w2,Bool.not_true,Bool.not_false,av,da,seval]
      exact uh hl e.symm (by decide) (by simp only[ae,vR,seval]) z1 z2 z3
     ·rw[ez]at g1 g2
      simp only[dQ,eu,bj,bF,aX,w2,Bool.not_true,Bool.not_false,av,da,seval]
      exact uh hl (by rw[ez]) (by decide) (by simp only[ae,vR,seval]) g1 g2 g3
    ·have QS:fS f 0=false:=by simpa using fz
     have bz:okB f 0 (m / 2)=false:=by simp[okB,QS]
     have hl:cX f (m / 2)=none:=by simp[cX,bo,bz]
     simp only[SG,QS,dQ,eu,bj,bF,aX,w2,Bool.not_true,Bool.not_false,av,da,seval]
     refine jC (by kernel_rfl) [] [] [] [0,1,2,3] [] [] [47,48,3] nt (by kernel_rfl) (by kernel_rfl) (by kernel_rfl) (by kernel_rfl) (fun t ht=>(by cases ht)) ?_
     simp only[nt,gL,av,Tryd.bt,da,seval]
     first | exact fZ hl | exact ⟨fZ hl,fZ hl⟩ | exact ⟨⟨fZ hl,fZ hl⟩,fZ hl⟩ | exact ⟨fZ hl,fZ hl,fZ hl⟩
def dh (f:Nat→Int) (st nx a:Nat):Bool:=(decide (a < st)||decide (nx≤a))&& !ug 64 (aF f a) zF
def cx (f:Nat→Int) (st nx n:Nat):List Nat:=(List.range n).filter (dh f st nx)
theorem tP {f:Nat→Int} {st nx n:Nat}:cx f st nx (n+1)=cx f st nx n++if dh f st nx n=true then [n] else []:=by
 unfold cx
 rw[List.range_succ,List.filter_append,List.filter_cons,List.filter_nil]
theorem qJ {f:Nat→Int} {st nx n:Nat}:(cx f st nx n).length≤n:=by
 have:=List.length_filter_le (dh f st nx) (List.range n)
 rw[List.length_range]at this
 exact this
def RZ (k:Nat) (A:List Nat) (v:AV) (out:Nat→Option aG):Prop:=
 (A=[]∧v=V (.slice none 0 0)∧out=fun _=>none)∨(A≠[]∧ ∃ c cs,eU cs A c∧v=Sl k 0 A.length c∧out=lk [(k,⟨true,cs⟩)])
def nu (m k:Nat) (v:AV):List (Nat×AV):=[(2,Ptr 7 0),(3,Ptr 8 0),(5,v),(9,I .i64 m),(10,I .i64 k)]
def nD (m:Nat) (f:Nat→Int) (pc nc kc ps:List SV) (l:List SV):List (Nat×aG):=[(0,⟨false,[Sum.inr (.inr (4,0,m,m))]⟩),(1,⟨false,pc⟩),(2,⟨false,[Sum.inl (.slice none 0 0)]⟩),(3,⟨false,nc⟩),(4,⟨false,aA .u8 (64*m) f⟩),(5,⟨false,kc⟩),(6,⟨false,ps⟩),(7,⟨true,eE 0 1 2 3⟩),(8,⟨true,l⟩)]
theorem R0 {m:Nat} {f:Nat→Int} {pc nc kc ps l:List SV} (hd:fY pc nc kc) (hp:ps.all SV.plain=true) (hl: ∀ x ∈ l,SV.ok (fun n=>n < 60) x): ∀ x ∈ nD m f pc nc kc ps l,x.1 < 60∧ ∀ y ∈ x.2.cells,SV.ok (fun n=>n < 60) y:=fun x hx=>by
 simp only[nD,cz]at hx
 rcases hx with rfl | rfl | rfl | rfl | rfl | rfl | rfl | rfl | rfl
 ·exact ⟨(by decide:0 < 60),fun y hy=>by rw[List.mem_singleton]at hy;subst hy;exact ⟨(by decide:4 < 60),rfl⟩⟩
 ·exact ⟨(by decide:1 < 60),fun x hx=>SV.aI (fun n hn=>by omega) (hd.p x hx)⟩
 ·exact ⟨(by decide:2 < 60),ai rfl⟩
 ·exact ⟨(by decide:3 < 60),ai hd.n⟩
 ·exact ⟨(by decide:4 < 60),ai aD⟩
 ·exact ⟨(by decide:5 < 60),ai hd.k⟩
 ·exact ⟨(by decide:6 < 60),ai hp⟩
 ·exact ⟨(by decide:7 < 60),dg fun n hn=>by omega⟩
 ·exact ⟨(by decide:8 < 60),hl⟩
theorem R1 {m k n c:Nat}: ∀ x ∈ nu m k (Sl 60 0 n c),AV.ok (fun n=>n < 61) x.2:=fun x hx=>by
 simp only[nu,cz]at hx
 rcases hx with rfl | rfl | rfl | rfl | rfl
 ·exact (by decide:7 < 61)
 ·exact (by decide:8 < 61)
 ·exact (by decide:60 < 61)
 ·trivial
 ·trivial
theorem uz {s:AS} {m' m k n c q:Nat} {f:Nat→Int} {pc nc kc ps l es:List SV} (hm':m'≤60) (hq:61≤q) (hd:fY pc nc kc) (hp:ps.all SV.plain=true) (hl: ∀ x ∈ l,SV.ok (fun n=>n < 60) x) (Km:es.all SV.plain=true)
  (he: ∀ x ∈ nu m k (Sl q 0 n c),s.env x.1=some x.2) (hX: ∀ x ∈ nD m f pc nc kc ps l,s.box x.1=some x.2) (hc:s.box q=some ⟨true,es⟩):lh m' s (nX (nu m k (Sl 60 0 n c)) ((60,⟨true,es⟩)::nD m f pc nc kc ps l) 61):=by
 refine sy hm' hq (fun x hx=> ?_) R1 Km hX (R0 hd hp hl) hc
 simp only[nu,cz,forall_eq_or_imp,forall_eq]at hx he
 obtain ⟨h2,h3,h5,h9,h10⟩:=he
 rcases hx with rfl | rfl | rfl | rfl | rfl
 ·exact h2
 ·exact h3
 ·have:AV.ren (upd (fun n=>n) 60 q) (Sl 60 0 n c)=Sl q 0 n c:=by
   show Sl (upd (fun n=>n) 60 q 60) 0 n c=_
   rw[aT]
  rw[this]
  exact h5
 ·exact h9
 ·exact h10
theorem tQ {m st nx np:Nat} {q:Int} {sv:SV} {f pf:Nat→Int} {pc nc kc ps:List SV} (h:fY pc nc kc) (hm:m≤8192) (hl:cY 6 sv np pf ps) (hp:ps.all SV.plain=true):
  bC Tryd.prog 47 [Ag (eE 0 1 2 3),Ag (aX st nx q sv)] 7 (lk (Nk m f pc nc kc ps)) (RZ 7 (cx f st nx m)):=by
 refine bO Tryd.func47 rfl (by kernel_rfl) [] [] (by simp[Tryd.ntmps47]) Tryd.qp (fun v hv=>by
  simp only[cz]at hv
  rcases hv with rfl | rfl
  ·exact dg fun n hn=>by omega
  ·exact fx (hl.ok (by decide))) IP (IQ h hp) ?_
 have hok: ∀ {M:Nat→Prop},M 6→SV.ok M sv:=fun h=>hl.ok h
 simp only[Tryd.results47,Nk,aX,da,seval]
 refine zV (dE m f (by simp only[ae,vR,seval]) (by simp only[ae,vR,seval]) (by simp only[ae,vR,seval]) (by simp only[ae,vR,seval]) (by simp only[ae,vR,seval]) (by simp only[ae,vR,seval])) h ?_
 simp only[da,seval]
 have R2:(SV.ok (fun n=>n < 61) (Sum.inr (Sum.inr (4,0,m,m)))∧(∀ x ∈ pc,SV.ok (fun n=>n < 61) x)∧SV.ok (fun n=>n < 61) (Sum.inl (Value.slice none 0 0))∧(∀ x ∈ nc,SV.ok (fun n=>n < 61) x)∧(∀ x ∈ kc,SV.ok (fun n=>n < 61) x)∧(∀ x ∈ ps,SV.ok (fun n=>n < 61) x)∧(∀ x ∈ eE 0 1 2 3,SV.ok (fun n=>n < 61) x)∧SV.ok (fun n=>n < 61) sv):=
  ⟨⟨(by decide:4 < 61),rfl⟩,fun x hx=>SV.aI (fun n hn=>by omega) (h.p x hx),⟨trivial,rfl⟩,ai h.n,ai h.k,ai hp,dg fun n hn=>by omega,hok (by decide)⟩
 refine sj m (fun k t=>(cx f st nx k=[]∧t=nX (nu m k (V (.slice none 0 0))) (nD m f pc nc kc ps (aX st nx q sv)) 61)∨
  (cx f st nx k≠[]∧ ∃ c es,eU es (cx f st nx k) c∧t=nX (nu m k (Sl 60 0 (cx f st nx k).length c)) ((60,⟨true,es⟩)::nD m f pc nc kc ps (aX st nx q sv)) 61)) ?_ ?_ ?_ ?_
 ·rintro k t (⟨_,rfl⟩ | ⟨_,_,_,_,rfl⟩)<;>(show (15:Nat)≤61;decide)
 ·refine ⟨_, .inl ⟨rfl,rfl⟩,dx.nC ?_⟩
  simp only[nu,nD,aX,da,seval]
  exact ⟨trivial,R2⟩
 ·rintro k t hk hI
  have SH:dh f st nx k=false→cx f st nx (k+1)=cx f st nx k:=fun e=>by rw[tP,e];simp
  have KW:dh f st nx k=true→cx f st nx (k+1)=cx f st nx k++[k]:=fun e=>by rw[tP,e];simp
  rcases hI with ⟨h0,rfl⟩ | ⟨h0,c,es,hg,rfl⟩
  ·skip
   by_cases c1:k < st
   ·have d1:(((k:Nat):Int) < ((st:Nat):Int))=True:=eq_true (by omega)
    simp only[d1,nu,nD,aX,aE,aJ hk,decide_true,decide_false,Bool.not_true,Bool.not_false,bQ k (by omega),av,jE,da,seval]
    refine kv (a:=k) (dE m f (by simp only[ae,vR,seval]) (by simp only[ae,vR,seval]) (by simp only[ae,vR,seval]) (by simp only[ae,vR,seval]) (by simp only[ae,vR,seval]) (by simp only[ae,vR,seval])) h hk (by omega) ?_
    have eS:(fun i=>f (k*64+i))=aF f k:=rfl
    by_cases hE:ug 64 (aF f k) zF=true
    ·have qP:dh f st nx k=false:=by simp[dh,hE]
     simp only[d1,eS,jw,hE,nu,nD,aX,aE,aJ hk,decide_true,decide_false,Bool.not_true,Bool.not_false,bQ k (by omega),av,jE,da,seval]
     refine ⟨_, .inl ⟨by rw[SH qP,h0],rfl⟩,dx.nC ?_⟩
     simp only[nu,nD,aX,da,seval]
     exact ⟨trivial,R2⟩
    ·have IL:ug 64 (aF f k) zF=false:=by simpa using hE
     have hs:dh f st nx k=true:=by simp[dh,IL,c1]
     simp only[d1,eS,jw,IL,nu,nD,aX,aE,aJ hk,decide_true,decide_false,Bool.not_true,Bool.not_false,bQ k (by omega),av,jE,da,seval]
     refine sx (a:=k) (eY:=true) Tryd.tH Tryd.zP ?_ (by decide) fun c3 Eb gu=> ?_
     ·simp only[mb,ao,aq,ae,vR,seval]
     simp only[nu,nD,aX,aE,aJ hk,decide_true,decide_false,Bool.not_true,Bool.not_false,bQ k (by omega),av,jE,da,seval]
     refine ⟨_, .inr ⟨by rw[KW hs];simp,c3,Eb,by rw[KW hs,h0];exact gu,rfl⟩, ?_⟩
     rw[KW hs,h0]
     refine uz (q:=85) (by decide) (by decide) h hp (fx (hok (by decide))) gu.plain ?_ ?_ ?_<;>(simp only[nu,nD,aX,List.nil_append,List.length_singleton,da,seval];done)
   ·have d1:(((k:Nat):Int) < ((st:Nat):Int))=False:=eq_false (by omega)
    by_cases c2:nx≤k
    ·have d2:(((nx:Nat):Int)≤((k:Nat):Int))=True:=eq_true (by omega)
     simp only[d1,d2,nu,nD,aX,aE,aJ hk,decide_true,decide_false,Bool.not_true,Bool.not_false,bQ k (by omega),av,jE,da,seval]
     refine kv (a:=k) (dE m f (by simp only[ae,vR,seval]) (by simp only[ae,vR,seval]) (by simp only[ae,vR,seval]) (by simp only[ae,vR,seval]) (by simp only[ae,vR,seval]) (by simp only[ae,vR,seval])) h hk (by omega) ?_
     have eS:(fun i=>f (k*64+i))=aF f k:=rfl
     by_cases hE:ug 64 (aF f k) zF=true
     ·have qP:dh f st nx k=false:=by simp[dh,hE]
      simp only[d1,d2,eS,jw,hE,nu,nD,aX,aE,aJ hk,decide_true,decide_false,Bool.not_true,Bool.not_false,bQ k (by omega),av,jE,da,seval]
      refine ⟨_, .inl ⟨by rw[SH qP,h0],rfl⟩,dx.nC ?_⟩
      simp only[nu,nD,aX,da,seval]
      exact ⟨trivial,R2⟩
     ·have IL:ug 64 (aF f k) zF=false:=by simpa using hE
      have hs:dh f st nx k=true:=by simp[dh,IL,c2]
      simp only[d1,d2,eS,jw,IL,nu,nD,aX,aE,aJ hk,decide_true,decide_false,Bool.not_true,Bool.not_false,bQ k (by omega),av,jE,da,seval]
      refine sx (a:=k) (eY:=true) Tryd.tH Tryd.zP ?_ (by decide) fun c3 Eb gu=> ?_
      ·simp only[mb,ao,aq,ae,vR,seval]
      simp only[nu,nD,aX,aE,aJ hk,decide_true,decide_false,Bool.not_true,Bool.not_false,bQ k (by omega),av,jE,da,seval]
      refine ⟨_, .inr ⟨by rw[KW hs];simp,c3,Eb,by rw[KW hs,h0];exact gu,rfl⟩, ?_⟩
      rw[KW hs,h0]
      refine uz (q:=85) (by decide) (by decide) h hp (fx (hok (by decide))) gu.plain ?_ ?_ ?_<;>(simp only[nu,nD,aX,List.nil_append,List.length_singleton,da,seval];done)
    ·have d2:(((nx:Nat):Int)≤((k:Nat):Int))=False:=eq_false (by omega)
     have qP:dh f st nx k=false:=by simp[dh,c1,c2]
     simp only[d1,d2,nu,nD,aX,aE,aJ hk,decide_true,decide_false,Bool.not_true,Bool.not_false,bQ k (by omega),av,jE,da,seval]
     refine ⟨_, .inl ⟨by rw[SH qP,h0],rfl⟩,dx.nC ?_⟩
     simp only[nu,nD,aX,da,seval]
     exact ⟨trivial,R2⟩
  ·skip
   by_cases c1:k < st
   ·have d1:(((k:Nat):Int) < ((st:Nat):Int))=True:=eq_true (by omega)
    simp only[d1,nu,nD,aX,aE,aJ hk,decide_true,decide_false,Bool.not_true,Bool.not_false,bQ k (by omega),av,jE,da,seval]
    refine kv (a:=k) (dE m f (by simp only[ae,vR,seval]) (by simp only[ae,vR,seval]) (by simp only[ae,vR,seval]) (by simp only[ae,vR,seval]) (by simp only[ae,vR,seval]) (by simp only[ae,vR,seval])) h hk (by omega) ?_
    have eS:(fun i=>f (k*64+i))=aF f k:=rfl
    by_cases hE:ug 64 (aF f k) zF=true
    ·have qP:dh f st nx k=false:=by simp[dh,hE]
     simp only[d1,eS,jw,hE,nu,nD,aX,aE,aJ hk,decide_true,decide_false,Bool.not_true,Bool.not_false,bQ k (by omega),av,jE,da,seval]
     rw[SH qP]
     refine ⟨_, .inr ⟨h0,c,es,hg,rfl⟩,dx.nC ?_⟩
     simp only[nu,nD,aX,da,seval]
     exact ⟨ai hg.plain,R2⟩
    ·have IL:ug 64 (aF f k) zF=false:=by simpa using hE
     have hs:dh f st nx k=true:=by simp[dh,IL,c1]
     simp only[d1,eS,jw,IL,nu,nD,aX,aE,aJ hk,decide_true,decide_false,Bool.not_true,Bool.not_false,bQ k (by omega),av,jE,da,seval]
     refine wY (a:=k) (eY:=true) Tryd.tH Tryd.zP hg ?_ ?_ (by decide) (by have:=qJ (f:=f) (st:=st) (nx:=nx) (n:=k);omega) (by decide) fun c3 Eb gu=> ?_
     ·simp only[mb,ao,aq,ae,vR,seval]
     ·simp only[mb,ao,aq,ae,vR,seval]
     simp only[nu,nD,aX,aE,aJ hk,decide_true,decide_false,Bool.not_true,Bool.not_false,bQ k (by omega),av,jE,da,seval]
     refine ⟨_, .inr ⟨by rw[KW hs];simp,c3,Eb,by rw[KW hs];exact gu,rfl⟩, ?_⟩
     rw[KW hs]
     refine uz (q:=85) (by decide) (by decide) h hp (fx (hok (by decide))) gu.plain ?_ ?_ ?_<;>(simp only[nu,nD,aX,List.length_append,List.length_singleton,da,seval];done)
   ·have d1:(((k:Nat):Int) < ((st:Nat):Int))=False:=eq_false (by omega)
    by_cases c2:nx≤k
    ·have d2:(((nx:Nat):Int)≤((k:Nat):Int))=True:=eq_true (by omega)
     simp only[d1,d2,nu,nD,aX,aE,aJ hk,decide_true,decide_false,Bool.not_true,Bool.not_false,bQ k (by omega),av,jE,da,seval]
     refine kv (a:=k) (dE m f (by simp only[ae,vR,seval]) (by simp only[ae,vR,seval]) (by simp only[ae,vR,seval]) (by simp only[ae,vR,seval]) (by simp only[ae,vR,seval]) (by simp only[ae,vR,seval])) h hk (by omega) ?_
     have eS:(fun i=>f (k*64+i))=aF f k:=rfl
     by_cases hE:ug 64 (aF f k) zF=true
     ·have qP:dh f st nx k=false:=by simp[dh,hE]
      simp only[d1,d2,eS,jw,hE,nu,nD,aX,aE,aJ hk,decide_true,decide_false,Bool.not_true,Bool.not_false,bQ k (by omega),av,jE,da,seval]
      rw[SH qP]
      refine ⟨_, .inr ⟨h0,c,es,hg,rfl⟩,dx.nC ?_⟩
      simp only[nu,nD,aX,da,seval]
      exact ⟨ai hg.plain,R2⟩
     ·have IL:ug 64 (aF f k) zF=false:=by simpa using hE
      have hs:dh f st nx k=true:=by simp[dh,IL,c2]
      simp only[d1,d2,eS,jw,IL,nu,nD,aX,aE,aJ hk,decide_true,decide_false,Bool.not_true,Bool.not_false,bQ k (by omega),av,jE,da,seval]
      refine wY (a:=k) (eY:=true) Tryd.tH Tryd.zP hg ?_ ?_ (by decide) (by have:=qJ (f:=f) (st:=st) (nx:=nx) (n:=k);omega) (by decide) fun c3 Eb gu=> ?_
      ·simp only[mb,ao,aq,ae,vR,seval]
      ·simp only[mb,ao,aq,ae,vR,seval]
      simp only[nu,nD,aX,aE,aJ hk,decide_true,decide_false,Bool.not_true,Bool.not_false,bQ k (by omega),av,jE,da,seval]
      refine ⟨_, .inr ⟨by rw[KW hs];simp,c3,Eb,by rw[KW hs];exact gu,rfl⟩, ?_⟩
      rw[KW hs]
      refine uz (q:=85) (by decide) (by decide) h hp (fx (hok (by decide))) gu.plain ?_ ?_ ?_<;>(simp only[nu,nD,aX,List.length_append,List.length_singleton,da,seval];done)
    ·have d2:(((nx:Nat):Int)≤((k:Nat):Int))=False:=eq_false (by omega)
     have qP:dh f st nx k=false:=by simp[dh,c1,c2]
     simp only[d1,d2,nu,nD,aX,aE,aJ hk,decide_true,decide_false,Bool.not_true,Bool.not_false,bQ k (by omega),av,jE,da,seval]
     rw[SH qP]
     refine ⟨_, .inr ⟨h0,c,es,hg,rfl⟩,dx.nC ?_⟩
     simp only[nu,nD,aX,da,seval]
     exact ⟨ai hg.plain,R2⟩
 ·rintro t (⟨h0,rfl⟩ | ⟨h0,c,es,hg,rfl⟩)
  ·simp only[nu,nD,aX,Int.lt_irrefl,decide_false,aE,da,seval]
   exact aL rfl (.inl ⟨h0,rfl,rfl⟩)
  ·simp only[nu,nD,aX,Int.lt_irrefl,decide_false,aE,da,seval]
   exact gX (k:=7) (q:=60) (cs:=es) (by decide) (by simp only[ae,vR,seval]) hg.plain (.inr ⟨h0,c,es,hg,rfl,rfl⟩)
theorem rz {s:AS} {nm m:Nat} {f:Nat→Int} {pc nc kc:List SV} (hd:m5 s (ju m f pc nc kc)) (h:fY pc nc kc) (hf:cU f) (hm:m≤8192) (h2:2≤m) {dst:Option Nat} {K:AS→Prop}
  (h0:cX f (m / 2)=none→K (s.put dst (some (cK jG (bR 1)))))
  (h1: ∀ st c cs,cX f (m / 2)=some st→bu cs 0 (bd (aF f (aC f (st+m / 2) st))) (dc f (aC f (st+m / 2) st))→bd (aF f (aC f (st+m / 2) st))≤c→cs.all SV.plain=true→
   K (({ s with box:=upd s.box nm (some ⟨true,cs⟩) }:AS).put dst (some (cK (bF f st (aC f (st+m / 2) st) (.inr (.inr (nm,0,bd (aF f (aC f (st+m / 2) st)),c)))) .nilIface)))):
  aB Tryd.prog nm 46 (some [Ag (eE 0 1 2 3)]) dst K s:=by
 refine (Kp h hf hm h2).aB (fun n=>n) none (hd.fits jj) (fw _) ?_
 rintro v out (⟨hr,rfl,rfl⟩ | ⟨st,c,cs,hr,g1,g2,g3,rfl,rfl⟩) _
 ·rw[jm,AV.cJ (show AV.plain (cK jG (bR 1))=true from rfl)]
  exact h0 hr
 ·rw[dv g3]
  have e2:AV.ren (dy (fun n=>n) 6 nm) (cK (bF f st (aC f (st+m / 2) st) (.inr (.inr (6,0,bd (aF f (aC f (st+m / 2) st)),c)))) .nilIface)=cK (bF f st (aC f (st+m / 2) st) (.inr (.inr (nm,0,bd (aF f (aC f (st+m / 2) st)),c)))) .nilIface:=by
   simp only[cK,bF,aX,AV.ren,CV.ren,List.map_cons,List.map_nil,SV.ren,dT,gl]
  rw[e2]
  exact h1 st c cs hr g1 g2 g3
theorem xd {s:AS} {nm m t st nx np c0:Nat} {q:Int} {f pf:Nat→Int} {eY:Bool} {pc nc kc ps:List SV} (hd:m5 s (ju m f pc nc kc)) (h:fY pc nc kc) (hm:m≤8192) (hb:s.box t=some ⟨eY,ps⟩) (hs:bu ps 0 np pf) (hc:np≤c0) (hp:ps.all SV.plain=true) {dst:Option Nat} {K:AS→Prop}
  (h0:cx f st nx m=[]→K (s.put dst (some (V (.slice none 0 0)))))
  (h1:cx f st nx m≠[]→ ∀ c cs,eU cs (cx f st nx m) c→K (({ s with box:=upd s.box nm (some ⟨true,cs⟩) }:AS).put dst (some (Sl nm 0 (cx f st nx m).length c)))):
  aB Tryd.prog nm 47 (some [Ag (eE 0 1 2 3),Ag (aX st nx q (.inr (.inr (t,0,np,c0))))]) dst K s:=by
 refine (tQ (q:=q) (sv:= .inr (.inr (6,0,np,c0))) (pf:=pf) (st:=st) (nx:=nx) (f:=f) h hm (.inr ⟨0,c0,rfl,hc,hs⟩) hp).aB (six t) none (xc hd h hb hp) ?_ ?_
 ·simp only[List.map_cons,List.map_nil,lM,kj,SV.ren,dT]
  rfl
 ·rintro v out (⟨e,rfl,rfl⟩ | ⟨e,c,cs,g,rfl,rfl⟩) _
  ·rw[jm]
   exact h0 e
  ·rw[dv g.plain]
   have e2:AV.ren (dy (six t) 7 nm) (Sl 7 0 (cx f st nx m).length c)=Sl nm 0 (cx f st nx m).length c:=by
    show Sl (dy (six t) 7 nm 7) 0 _ _=_
    rw[gl]
   rw[e2]
   exact h1 e c cs g
def eZ (f:Nat→Int) (m st:Nat):List Nat:=cx f st (ay f (aC f (st+m / 2) st)) m
def IU (k:Nat) (f:Nat→Int) (m:Nat) (v:AV) (out:Nat→Option aG):Prop:=
 (cX f (m / 2)=none∧v=cK jG (bR 1)∧out=fun _=>none)∨
 (∃ st,cX f (m / 2)=some st∧eZ f m st≠[]∧v=cK jG (bR 2)∧out=fun _=>none)∨
 (∃ st c cs,cX f (m / 2)=some st∧eZ f m st=[]∧bu cs 0 (bd (aF f (aC f (st+m / 2) st))) (dc f (aC f (st+m / 2) st))∧bd (aF f (aC f (st+m / 2) st))≤c∧cs.all SV.plain=true∧v=cK (bF f st (aC f (st+m / 2) st) (.inr (.inr (k,0,bd (aF f (aC f (st+m / 2) st)),c)))) .nilIface∧out=lk [(k,⟨true,cs⟩)])
theorem xe {m:Nat} {f:Nat→Int} {pc nc kc:List SV} (h:fY pc nc kc) (hf:cU f) (hm:m≤8192) (h2:2≤m):
  bC Tryd.prog 25 [Ag (eE 0 1 2 3)] 6 (lk (ju m f pc nc kc)) (IU 6 f m):=by
 refine bO Tryd.func25 rfl (by kernel_rfl) [5] [] (by simp[Tryd.ntmps25]) Tryd.qc (fun v hv=>by rw[List.mem_singleton]at hv;subst hv;exact dg fun n hn=>by omega) ke (kg h) ?_
 simp only[Tryd.results25,ju,av,da,seval]
 refine rz (dE m f (by simp only[ae,vR,seval]) (by simp only[ae,vR,seval]) (by simp only[ae,vR,seval]) (by simp only[ae,vR,seval]) (by simp only[ae,vR,seval]) (by simp only[ae,vR,seval])) h hf hm h2 (fun hl=> ?_) fun st c cs hl g1 g2 g3=> ?_
 ·simp only[cK,jG,bR,av,da,seval]
  exact aL rfl (.inl ⟨hl,rfl,rfl⟩)
 ·simp only[cK,bF,aX,av,da,seval]
  refine xd (t:=10) (eY:=true) (np:=bd (aF f (aC f (st+m / 2) st))) (c0:=c) (pf:=dc f (aC f (st+m / 2) st)) (ps:=cs) (dE m f (by simp only[ae,vR,seval]) (by simp only[ae,vR,seval]) (by simp only[ae,vR,seval]) (by simp only[ae,vR,seval]) (by simp only[ae,vR,seval]) (by simp only[ae,vR,seval])) h hm (by simp only[ae,vR,seval]) g1 g2 g3 (fun e=> ?_) fun e c1 wB k1=> ?_
  ·simp only[bF,aX,decide_false,av,da,seval]
   exact Ep (q:=10) (by decide) (by simp only[ae,vR,seval]) g3 (.inr (.inr ⟨st,c,cs,hl,e,g1,g2,g3,rfl,rfl⟩))
  ·have hlen:((0:Int) < ((cx f st (ay f (aC f (st+m / 2) st)) m).length:Int))=True:=eq_true (by have:=List.length_pos_iff.2 e;omega)
   simp only[hlen,decide_true,bF,aX,av,da,seval]
   refine jC (by kernel_rfl) [] [] [] [0,1,2,3] [] [] [20,21,3] nt (by kernel_rfl) (by kernel_rfl) (by kernel_rfl) (by kernel_rfl) (fun t ht=>(by cases ht)) ?_
   simp only[nt,gL,av,Tryd.bt,da,seval]
   have fin: ∀ {s:AS},nA 6 (IU 6 f m) (cK jG (bR 2)) s:=fun {s}=>aL rfl (.inr (.inl ⟨st,hl,e,rfl,rfl⟩))
   first | exact fin | exact ⟨fin,fin⟩ | exact ⟨⟨fin,fin⟩,fin⟩ | exact ⟨fin,fin,fin⟩
def iY (f:Nat→Int) (Gs:List (List Pd)):Nat→Int:=Gs.foldl eh f
def dF:List (List Pd)→Nat
 | []=>0
 | G::Gs=>G.length+dF Gs
def gN (kn:Nat) (kb:Nat→Bool) (cut:Nat):(Nat→Int)→List (List Pd)→Nat→Nat→Int
 | f,[],T=>f
 | f,G::Gs,T=>if T < G.length then fF (eh f (cZ kn kb 0 (G.take T))) (G.getD T (0,zF)).1 cut (G.getD T (0,zF)).2 else gN kn kb cut (eh f G) Gs (T - G.length)
theorem Er: ∀ {A B:List (List Pd)},dF (A++B)=dF A+dF B
 | [],B=>by simp[dF]
 | G::A,B=>by simp only[List.cons_append,dF,Er];omega
theorem Bt {f:Nat→Int} {A B:List (List Pd)}:iY f (A++B)=iY (iY f A) B:=List.foldl_append
theorem rB {kn:Nat} {kb:Nat→Bool} {cut:Nat}: ∀ {A B:List (List Pd)} {f:Nat→Int} {T:Nat},gN kn kb cut f (A++B) T=if T < dF A then gN kn kb cut f A T else gN kn kb cut (iY f A) B (T - dF A)
 | [],B,f,T=>by simp[dF,iY]
 | G::A,B,f,T=>by
  have eT:dF (G::A)=G.length+dF A:=rfl
  have eO:iY f (G::A)=iY (eh f G) A:=rfl
  rw[eT,eO,List.cons_append]
  simp only[gN]
  by_cases h:T < G.length
  ·rw[if_pos h,if_pos h,if_pos (by omega)]
  ·rw[if_neg h,if_neg h,rB]
   by_cases h2:T - G.length < dF A
   ·rw[if_pos h2,if_pos (by omega)]
   ·rw[if_neg h2,if_neg (by omega),show T - G.length - dF A=T - (G.length+dF A) by omega]
def eX (a n:Nat) (q:Int) (pf:Nat→Int):List (List Pd):=[dM a n pf,[(a,gM q n pf)]]
theorem kU {a n:Nat} {q:Int} {pf:Nat→Int}:dF (eX a n q pf)=aO n+1:=by simp[eX,dF,gG]
theorem Bu {f:Nat→Int} {a n:Nat} {q:Int} {pf:Nat→Int}:lK f a n q pf=iY f (eX a n q pf):=rfl
theorem Es {f:Nat→Int} {a n kn cut T:Nat} {kb:Nat→Bool} {q:Int} {pf:Nat→Int} (h:T < aO n+1):jK f a n q pf kn kb cut T=gN kn kb cut f (eX a n q pf) T:=by
 unfold jK eX
 simp only[gN,gG]
 by_cases hT:T < aO n
 ·have e:(dM a n pf).getD T (0,zF)=(a+1+T,fun i=>fX n pf (T*64+i)):=by rw[List.getD_eq_getElem?_getD,wX hT];rfl
  rw[if_pos hT,if_pos hT,e]
 ·have e:T - aO n=0:=by omega
  rw[if_neg hT,if_neg hT,e,if_pos (by simp)]
  simp[cZ,kS]
theorem oX {A:List Nat}:dF [zL A]=A.length:=by simp[dF,wZ]
theorem zZ {f:Nat→Int} {A:List Nat} {kn cut T:Nat} {kb:Nat→Bool} (h:T < A.length):jv f A kn kb cut T=gN kn kb cut f [zL A] T:=by
 unfold jv
 have ha:A[T]? =some A[T]:=List.getElem?_eq_getElem h
 have e:(zL A).getD T (0,zF)=(A[T],zF):=by rw[List.getD_eq_getElem?_getD,QN ha];rfl
 simp only[gN,wZ]
 rw[if_pos h,e,List.getD_eq_getElem?_getD,ha]
 rfl
theorem rC {s:AS} {m t:Nat} {f:Nat→Int} {pc kc ps:List SV} {cnt:Int} {eY:Bool} (hd:wU s m f pc kc cnt (Sum.inl (.slice none 0 0))) (hb:s.box t=some ⟨eY,ps⟩) (ht:5≤t) (hp: ∀ x ∈ pc,SV.ok (fun n=>n=5) x) (hk:kc.all SV.plain=true) (hps:ps.all SV.plain=true):iW s (six t) (lk (xP m f pc kc cnt ps)) [2,3,4]:=by
 refine kd (fun x hx=> ?_) fun n hn=> ?_
 ·have inj: ∀ a,a=2∨a=3∨a=4→ ∀ y ∈ xP m f pc kc cnt ps,six t a=six t y.1→a=y.1:=fun a ha y hy e=>by
   have:y.1 < 7:=by
    simp only[xP,cz]at hy
    rcases hy with rfl | rfl | rfl | rfl | rfl | rfl | rfl<;>(simp only;omega)
   unfold six at e
   split at e<;>split at e<;>omega
  simp only[xP,cz]at hx
  rcases hx with rfl | rfl | rfl | rfl | rfl | rfl | rfl
  ·exact ⟨⟨_,hd.b0,fun h=>h⟩,fun h=>(by cases h)⟩
  ·exact ⟨⟨_,by rw[wV hp];exact hd.b1,fun h=>h⟩,fun h=>(by cases h)⟩
  ·exact ⟨⟨_,hd.b2,fun h=>rfl⟩,fun h=>⟨(by decide:(2:Nat) ∈ [2,3,4]),inj 2 (by decide)⟩⟩
  ·exact ⟨⟨_,hd.b3,fun h=>rfl⟩,fun h=>⟨(by decide:(3:Nat) ∈ [2,3,4]),inj 3 (by decide)⟩⟩
  ·exact ⟨⟨_,by rw[az aD];exact hd.b4,fun h=>rfl⟩,fun h=>⟨(by decide:(4:Nat) ∈ [2,3,4]),inj 4 (by decide)⟩⟩
  ·exact ⟨⟨_,by rw[az hk];exact hd.b5,fun h=>h⟩,fun h=>(by cases h)⟩
  ·exact ⟨⟨_,by rw[az hps];exact hb,fun h=>(by cases h)⟩,fun h=>(by cases h)⟩
 ·simp only[cz]at hn
  rcases hn with rfl | rfl | rfl<;>exact ⟨_,rfl,rfl⟩
def iZ (s:AS) (m:Nat) (f:Nat→Int) (cnt:Int):Nat→Option aG:=upd (upd (upd s.box 4 (some ⟨true,aA .u8 (64*m) f⟩)) 3 (some ⟨true,[Sum.inl (.int .i64 cnt)]⟩)) 2 (some ⟨true,[Sum.inl (.slice none 0 0)]⟩)
theorem Nn {s:AS} {m t nm:Nat} {f:Nat→Int} {cnt:Int}:dL s (six t) 7 1 nm [2,3,4] (lk (cr m f cnt))=upd (iZ s m f cnt) nm none:=by
 rw[fc]
 simp only[cr,iZ,List.foldr_cons,List.foldr_nil,lk,Option.map_some,Option.map_none,aG.ren,List.map_cons,List.map_nil,SV.ren,dT,az aD,Nat.reduceEqDiff,reduceIte,show six t 2=2 from rfl,show six t 3=3 from rfl,show six t 4=4 from rfl]
theorem QT {s:AS} {m t nm:Nat} {f:Nat→Int} {cnt:Int}:dL s (six t) 7 0 nm [2,3,4] (lk (cr m f cnt))=iZ s m f cnt:=by
 rw[ma]
 simp only[cr,iZ,List.foldr_cons,List.foldr_nil,lk,Option.map_some,Option.map_none,aG.ren,List.map_cons,List.map_nil,SV.ren,dT,az aD,Nat.reduceEqDiff,reduceIte,show six t 2=2 from rfl,show six t 3=3 from rfl,show six t 4=4 from rfl]
theorem IV {a:Nat} {q:Int} {sv:SV} (h:SV.ok (fun n=>n < 7) sv): ∀ v ∈ [Ag (eE 0 1 2 3),I .i64 a,Ag (bj q sv)],AV.ok (fun n=>n < 7) v:=fun v hv=>by
 simp only[cz]at hv
 rcases hv with rfl | rfl | rfl
 ·exact dg fun n hn=>by omega
 ·trivial
 ·exact j8 h
theorem Np {m a n kn:Nat} {kb:Nat→Bool} {f pf:Nat→Int} {ks:SV} {kc ps:List SV} {at_ cut cnt q:Int} {sv:SV} (hk:fR ks kn kb kc) (hl:cY 6 sv n pf ps) (hp:ps.all SV.plain=true) (hpf:cU pf) (hm:m≤8192) (ha:a+aO n < m) (hn:n < 600000) (h0:0≤cnt) (h1:cnt < 900000) (hfl:bk at_ cnt (aO n+1)=false):
  bC Tryd.prog 16 [Ag (eE 0 1 2 3),I .i64 a,Ag (bj q sv)] 7 (lk (xP m f (cL at_ cut ks) kc cnt ps)) (fun v out=>v=Sum.inr []∧out=lk (cr m (lK f a n q pf) (cnt+(aO n:Nat)+1))):=
 iL Tryd.func16 rfl (by kernel_rfl) [7] [4,7] (by simp[Tryd.ntmps16]) Tryd.mO (IV (hl.ok (by decide))) oU (oV (dW hk) hk.c hp) hfl (QL hk hl hp hpf hm ha hn h0 h1 _ rfl)
theorem Ul {m a n kn:Nat} {kb:Nat→Bool} {f pf:Nat→Int} {ks:SV} {kc ps:List SV} {at_ cut cnt q:Int} {sv:SV} (hk:fR ks kn kb kc) (hl:cY 6 sv n pf ps) (hp:ps.all SV.plain=true) (hpf:cU pf) (hm:m≤8192) (ha:a+aO n < m) (hn:n < 600000) (h0:0≤cnt) (h1:cnt < 900000) (hfl:bk at_ cnt (aO n+1)=true):
  ud Tryd.prog 16 [Ag (eE 0 1 2 3),I .i64 a,Ag (bj q sv)] 7 (lk (xP m f (cL at_ cut ks) kc cnt ps)) eR (fun out=>out=lk (cr m (jK f a n q pf kn kb (dO cut) (at_ - cnt - 1).toNat) at_)):=
 iM Tryd.func16 rfl (by kernel_rfl) [7] [4,7] (by simp[Tryd.ntmps16]) Tryd.mO (IV (hl.ok (by decide))) oU (oV (dW hk) hk.c hp) hfl (QL hk hl hp hpf hm ha hn h0 h1 _ rfl)
theorem IW {n c:Nat}: ∀ v ∈ [Ag (eE 0 1 2 3),Sl 6 0 n c],AV.ok (fun n=>n < 7) v:=fun v hv=>by
 simp only[cz]at hv
 rcases hv with rfl | rfl
 ·exact dg fun n hn=>by omega
 ·exact (by decide:6 < 7)
theorem R3 {m c0 kn:Nat} {kb:Nat→Bool} {f:Nat→Int} {A:List Nat} {ks:SV} {kc ps:List SV} {at_ cut cnt:Int} (hk:fR ks kn kb kc) (hl:eU ps A c0) (hA: ∀ a ∈ A,a < m) (hne:A≠[]) (hm:m≤8192) (hn:A.length≤8192) (h0:0≤cnt) (h1:cnt < 900000) (hfl:bk at_ cnt A.length=false):
  bC Tryd.prog 54 [Ag (eE 0 1 2 3),Sl 6 0 A.length c0] 7 (lk (xP m f (cL at_ cut ks) kc cnt ps)) (fun v out=>v=Sum.inr []∧out=lk (cr m (qI f A) (cnt+A.length))):=
 iL Tryd.func54 rfl (by kernel_rfl) [] [5] (by simp[Tryd.ntmps54]) Tryd.kQ IW oU (oV (dW hk) hk.c hl.plain) hfl (Nh hk hl hA hne hm hn h0 h1 _ rfl)
theorem R4 {m c0 kn:Nat} {kb:Nat→Bool} {f:Nat→Int} {A:List Nat} {ks:SV} {kc ps:List SV} {at_ cut cnt:Int} (hk:fR ks kn kb kc) (hl:eU ps A c0) (hA: ∀ a ∈ A,a < m) (hne:A≠[]) (hm:m≤8192) (hn:A.length≤8192) (h0:0≤cnt) (h1:cnt < 900000) (hfl:bk at_ cnt A.length=true):
  ud Tryd.prog 54 [Ag (eE 0 1 2 3),Sl 6 0 A.length c0] 7 (lk (xP m f (cL at_ cut ks) kc cnt ps)) eR (fun out=>out=lk (cr m (jv f A kn kb (dO cut) (at_ - cnt - 1).toNat) at_)):=
 iM Tryd.func54 rfl (by kernel_rfl) [] [5] (by simp[Tryd.ntmps54]) Tryd.kQ IW oU (oV (dW hk) hk.c hl.plain) hfl (Nh hk hl hA hne hm hn h0 h1 _ rfl)
section
variable {s:AS} {nm m a n kn t:Nat} {kb:Nat→Bool} {f pf:Nat→Int} {ks sv:SV} {kc ps:List SV} {at_ cut cnt q:Int} {eY:Bool} {dst:Option Nat} {K:AS→Prop} {F:Exit→AS→Prop}
theorem xg {ry:SV} (h:SV.ren (six t) ry=sv):([Ag (eE 0 1 2 3),I .i64 a,Ag (bj q sv)]:List AV)=[Ag (eE 0 1 2 3),I .i64 a,Ag (bj q ry)].map (AV.ren (six t)):=by
 simp only[List.map_cons,List.map_nil,lM,iJ,jP,h]
theorem Kq (hd:wU s m f (cL at_ cut ks) kc cnt (Sum.inl (.slice none 0 0))) (hk:fR ks kn kb kc) (hb:s.box t=some ⟨eY,ps⟩) (ht:5≤t) (hl:cY t sv n pf ps) (hp:ps.all SV.plain=true) (hpf:cU pf) (hm:m≤8192) (ha:a+aO n < m) (hn:n < 600000) (h0:0≤cnt) (h1:cnt < 900000) (hfl:bk at_ cnt (aO n+1)=false) {x:Int} (hx:x=(a:Int))
  (hK:K (({ s with box:=upd (iZ s m (lK f a n q pf) (cnt+(aO n:Nat)+1)) nm none }:AS).put dst (some (Sum.inr [])))):bD Tryd.prog nm 16 (some [Ag (eE 0 1 2 3),I .i64 x,Ag (bj q sv)]) dst K s:=by
 subst hx
 obtain ⟨s0,g0,g1⟩:=hl.jJ 6
 refine (Np (q:=q) (cut:=cut) (f:=f) hk g0 hp hpf hm ha hn h0 h1 hfl).wide.rj (six t) [2,3,4] (rC hd hb ht (dW hk) hk.c hp) (xg (g1 (six t) rfl)) ?_
 rintro v out ⟨rfl,rfl⟩
 rw[Nn]
 exact hK
theorem IX (hd:wU s m f (cL at_ cut ks) kc cnt (Sum.inl (.slice none 0 0))) (hk:fR ks kn kb kc) (hb:s.box t=some ⟨eY,ps⟩) (ht:5≤t) (hl:cY t sv n pf ps) (hp:ps.all SV.plain=true) (hpf:cU pf) (hm:m≤8192) (ha:a+aO n < m) (hn:n < 600000) (h0:0≤cnt) (h1:cnt < 900000) (hfl:bk at_ cnt (aO n+1)=true) {x:Int} (hx:x=(a:Int))
  (hK:F (.panic eR) { s with box:=iZ s m (jK f a n q pf kn kb (dO cut) (at_ - cnt - 1).toNat) at_ }):dV Tryd.prog 16 (some [Ag (eE 0 1 2 3),I .i64 x,Ag (bj q sv)]) F s:=by
 subst hx
 obtain ⟨s0,g0,g1⟩:=hl.jJ 6
 refine (Ul (q:=q) (cut:=cut) (f:=f) hk g0 hp hpf hm ha hn h0 h1 hfl).oT (six t) [2,3,4] (rC hd hb ht (dW hk) hk.c hp) (xg (g1 (six t) rfl)) ?_
 rintro out rfl
 rw[QT]
 exact hK
variable {A:List Nat} {c0:Nat}
theorem xh (hd:wU s m f (cL at_ cut ks) kc cnt (Sum.inl (.slice none 0 0))) (hk:fR ks kn kb kc) (hb:s.box t=some ⟨eY,ps⟩) (ht:5≤t) (hl:eU ps A c0) (hA: ∀ a ∈ A,a < m) (hne:A≠[]) (hm:m≤8192) (hn:A.length≤8192) (h0:0≤cnt) (h1:cnt < 900000) (hfl:bk at_ cnt A.length=false)
  (hK:K (({ s with box:=upd (iZ s m (qI f A) (cnt+A.length)) nm none }:AS).put dst (some (Sum.inr [])))):bD Tryd.prog nm 54 (some [Ag (eE 0 1 2 3),Sl t 0 A.length c0]) dst K s:=by
 refine (R3 (cut:=cut) (f:=f) hk hl hA hne hm hn h0 h1 hfl).wide.rj (six t) [2,3,4] (rC hd hb ht (dW hk) hk.c hl.plain) rfl ?_
 rintro v out ⟨rfl,rfl⟩
 rw[Nn]
 exact hK
theorem Et (hd:wU s m f (cL at_ cut ks) kc cnt (Sum.inl (.slice none 0 0))) (hk:fR ks kn kb kc) (hb:s.box t=some ⟨eY,ps⟩) (ht:5≤t) (hl:eU ps A c0) (hA: ∀ a ∈ A,a < m) (hne:A≠[]) (hm:m≤8192) (hn:A.length≤8192) (h0:0≤cnt) (h1:cnt < 900000) (hfl:bk at_ cnt A.length=true)
  (hK:F (.panic eR) { s with box:=iZ s m (jv f A kn kb (dO cut) (at_ - cnt - 1).toNat) at_ }):dV Tryd.prog 54 (some [Ag (eE 0 1 2 3),Sl t 0 A.length c0]) F s:=by
 refine (R4 (cut:=cut) (f:=f) hk hl hA hne hm hn h0 h1 hfl).oT (six t) [2,3,4] (rC hd hb ht (dW hk) hk.c hl.plain) rfl ?_
 rintro out rfl
 rw[QT]
 exact hK
end
section
variable {P:Program} [bM.Tables P] {s:AS} {nm:Nat} {K:AS→Prop} {dst:Option Nat} {ty:TypeId} {pos:String} {after:Array Edge}
theorem xj {op:BinOp} {t t':TypeId} {x y:Operand}:ri P nm (some ⟨dst, .binOp op t x y t',ty,pos,after,none⟩) K s=bK P nm ⟨dst, .binOp op t x y t',ty,pos,after,none⟩ K s:=rfl
theorem rD {x:Operand} {i:Nat}:ri P nm (some ⟨dst, .extract x i,ty,pos,after,none⟩) K s=bK P nm ⟨dst, .extract x i,ty,pos,after,none⟩ K s:=rfl
end
theorem fV:type_of% @xj∧type_of% @rD:=
 ⟨@xj, @rD⟩
theorem me {s:AS} {nm m:Nat} {f:Nat→Int} {pc nc kc:List SV} (hd:m5 s (ju m f pc nc kc)) (h:fY pc nc kc) (hm:m≤1048576) {dst:Option Nat} {K:AS→Prop} (hk:K (({ s with box:=upd s.box nm none }:AS).put dst (some (I .i64 (m / 2:Nat))))):bD Tryd.prog nm 26 (some [Ag (eE 0 1 2 3)]) dst K s:=by
 refine (m6 (f:=f) h hm).wide.aB (fun n=>n) none (hd.fits jj) (fw _) ?_
 rintro v out ⟨rfl,rfl⟩
 rw[dJ]
 exact hk
theorem rE {s:AS} {nm t st n np:Nat} {q:Int} {sv:SV} {f:Nat→Int} {eY:Bool} {ps:List SV} (hb:s.box t=some ⟨eY,ps⟩) (hl:cY t sv np f ps) (hp:ps.all SV.plain=true) (hst:st≤100000) (hn:0 < n) (hn1:n≤100000) {nx:Nat} (hx:nx=st+n) {dst:Option Nat} {K:AS→Prop}
  (hk: ∀ c cs,eU cs (List.range' st n) c→K (({ s with box:=upd s.box nm (some ⟨true,cs⟩) }:AS).put dst (some (Sl nm 0 n c)))):bD Tryd.prog nm 55 (some [Ag (aX st nx q sv)]) dst K s:=by
 subst hx
 obtain ⟨s0,h0,h1⟩:=hl.jJ 0
 refine (Ni (q:=q) h0 hp hst hn hn1).wide.aB (fun _=>t) none (dU hb hp) ?_ ?_
 ·simp only[List.map_cons,List.map_nil,kj,h1 (fun _=>t) rfl]
 ·rintro v out ⟨c,cs,g,rfl,rfl⟩
  rw[dJ]
  have e1:(lk [(1,(⟨true,cs⟩:aG))] 1).map (aG.ren (aR (fun _=>t) 1 nm))=some ⟨true,cs⟩:=by simp[lk,aG.ren,az g.plain]
  have e2:AV.ren (aR (fun _=>t) 1 nm) (Sl 1 0 n c)=Sl nm 0 n c:=by
   show Sl (aR (fun _=>t) 1 nm 1) 0 _ _=_
   rw[lC]
  rw[e1,e2]
  exact hk c cs g
def xk (m:Nat) (f:Nat→Int) (pc kc:List SV) (cnt:Int) (ps ls:List SV):List (Nat×aG):=
 [(0,⟨false,[Sum.inr (.inr (4,0,m,m))]⟩),(1,⟨false,pc⟩),(2,⟨true,[Sum.inl (.slice none 0 0)]⟩),(3,⟨true,[Sum.inl (.int .i64 cnt)]⟩),(4,⟨true,aA .u8 (64*m) f⟩),(5,⟨false,kc⟩),(6,⟨false,ps⟩),(7,⟨false,ls⟩)]
theorem Eu {m:Nat} {f:Nat→Int} {pc kc ps ls:List SV} {cnt:Int}: ∀ n,n < 8→ ∃ c,lk (xk m f pc kc cnt ps ls) n=some c:=fun n hn=>by
 rcases (show n=0∨n=1∨n=2∨n=3∨n=4∨n=5∨n=6∨n=7 by omega) with rfl | rfl | rfl | rfl | rfl | rfl | rfl | rfl<;>exact ⟨_,rfl⟩
theorem Ev {m:Nat} {f:Nat→Int} {pc kc ps ls:List SV} {cnt:Int} (hp: ∀ x ∈ pc,SV.ok (fun n=>n=5) x) (hk:kc.all SV.plain=true) (hs:ps.all SV.plain=true) (hls:ls.all SV.plain=true): ∀ n c,lk (xk m f pc kc cnt ps ls) n=some c→n < 8∧ ∀ x ∈ c.cells,SV.ok (fun n=>n < 8) x:=fun n c hn=>by
 have h1:=bg _ _ _ hn
 simp only[xk,cz,Prod.mk.injEq]at h1
 rcases h1 with ⟨rfl,rfl⟩ | ⟨rfl,rfl⟩ | ⟨rfl,rfl⟩ | ⟨rfl,rfl⟩ | ⟨rfl,rfl⟩ | ⟨rfl,rfl⟩ | ⟨rfl,rfl⟩ | ⟨rfl,rfl⟩
 ·exact ⟨by decide,fun x hx=>by rw[List.mem_singleton]at hx;subst hx;exact ⟨(by decide:4 < 8),rfl⟩⟩
 ·exact ⟨by decide,fun x hx=>SV.aI (fun n hn=>by subst hn;decide) (hp x hx)⟩
 ·exact ⟨by decide,ai rfl⟩
 ·exact ⟨by decide,ai rfl⟩
 ·exact ⟨by decide,ai aD⟩
 ·exact ⟨by decide,ai hk⟩
 ·exact ⟨by decide,ai hs⟩
 ·exact ⟨by decide,ai hls⟩
def qQ (a n:Nat) (q:Int) (pf:Nat→Int) (st nn:Nat):List (List Pd):=eX a n q pf++[zL (List.range' st nn)]
theorem rF {a n:Nat} {q:Int} {pf:Nat→Int} {st nn:Nat}:dF (qQ a n q pf st nn)=aO n+1+nn:=by rw[qQ,Er,kU,oX,List.length_range']
theorem xl {ks:SV} {kn:Nat} {kb:Nat→Bool} {kc:List SV} {at_ cut cnt:Int} (hk:fR ks kn kb kc):fY (cL at_ cut ks) [Sum.inl (.int .i64 cnt)] kc:=⟨dW hk,rfl,hk.c⟩
theorem Nq {m a n kn st nn np:Nat} {kb:Nat→Bool} {f pf lf:Nat→Int} {ks:SV} {kc ps ls:List SV} {at_ cut cnt q q0:Int} {sv ry:SV} (hk:fR ks kn kb kc) (hl:cY 6 sv n pf ps) (hp:ps.all SV.plain=true) (hpf:cU pf) (lI:cY 7 ry np lf ls) (hls:ls.all SV.plain=true) (hm:m≤8192) (ha:a+aO n < m) (hn:n < 600000) (h0:0≤cnt) (h1:cnt < 800000)
  (hst:((m / 2:Nat):Int) - (st:Int)=(a:Int)) (QA:0 < nn) (RD:st+nn≤m):
  ∀ c,Tryd.f42.body=some c→iX Tryd.prog [1,2] [1,2] c (dw Tryd.prog [] 8 (bk at_ cnt (aO n+1+nn)) eR (fun v out=>v=Sum.inr []∧out=lk (cr m (iY f (qQ a n q pf st nn)) (cnt+(aO n:Nat)+1+nn)))
   (fun out=>out=lk (cr m (gN kn kb (dO cut) f (qQ a n q pf st nn) (at_ - cnt - 1).toNat) at_))) (bM.start [Ag (eE 0 1 2 3),Ag (aX st (st+nn) q0 ry),Ag (bj q sv)] (lk (xk m f (cL at_ cut ks) kc cnt ps ls)) 8):=by
 intro c hc
 cases hc
 have jk:List.take 2 (bj q sv)=bj q sv:=rfl
 have Bv:List.take 4 (aX st (st+nn) q0 ry)=aX st (st+nn) q0 ry:=rfl
 have w1:IntKind.i64.wrap (((m / 2:Nat):Int) - (st:Int))=(a:Int):=by rw[wrap_i64 _ (by omega) (by omega)];omega
 have dk:=xl (at_:=at_) (cut:=cut) (cnt:=cnt) hk
 have Ew:(aX st (st+nn) q0 ry)[0]? =some (Sum.inl (.int .i64 (st:Int))):=rfl
 have RM:aO n≤9376:=by unfold aO;omega
 simp only[xk,jk,Bv,eN,iN,fV,da,seval]
 by_cases S0:bk at_ cnt (aO n+1)=true
 ·have hb:=of_decide_eq_true S0
  refine .inr ⟨by kernel_rfl, ?_⟩
  simp only[fV,da,seval]
  refine dK (by kernel_rfl) [0,1,3,4,6] [2,5] [] [] [8,9,10] [6,7,9,10,12,8,11] (by kernel_rfl) (by kernel_rfl) (by kernel_rfl) ?_
  simp only[jk,Bv,eN,iN,Ew,fV,da,seval]
  refine me (f:=f) (m:=m) (iK (m:=m) (f:=f) (pc:=cL at_ cut ks) (nc:=[Sum.inl (.int .i64 cnt)]) (kc:=kc) (r0:=false) (r1:=false) (r2:=true) (r3:=true) (r4:=true) (r5:=false) (by simp only[ao,aq,ae,vR,seval]) (by simp only[ao,aq,ae,vR,seval]) (by simp only[ao,aq,ae,vR,seval]) (by simp only[ao,aq,ae,vR,seval]) (by simp only[ao,aq,ae,vR,seval]) (by simp only[ao,aq,ae,vR,seval])) dk (by omega) ?_
  simp only[jk,Bv,eN,iN,Ew,w1,fV,da,seval]
  refine IX (kc:=kc) (cut:=cut) (at_:=at_) (m:=m) (f:=f) (cnt:=cnt) (t:=6) (eY:=false) (ps:=ps) ⟨?_, ?_, ?_, ?_, ?_, ?_⟩ hk ?_ (by decide) hl hp hpf hm ha hn h0 (by omega) S0 rfl ?_<;>try (simp only[ao,aq,ae,vR,seval];done)
  simp only[fa]
  unfold dw
  rw[if_pos (show bk at_ cnt (aO n+1+nn)=true from decide_eq_true (by omega))]
  have e:gN kn kb (dO cut) f (qQ a n q pf st nn) (at_ - cnt - 1).toNat=jK f a n q pf kn kb (dO cut) (at_ - cnt - 1).toNat:=by
   rw[qQ,rB,kU,if_pos (by omega),Es (by omega)]
  rw[e]
  exact uw (by decide) (by simp only[iZ,ae,vR,seval]) (by simp only[iZ,ae,vR,seval]) (by simp only[iZ,ae,vR,seval])
 ·refine .inl ?_
  refine dK (by kernel_rfl) [0,1,3,4,6] [2,5,7] [] [] [8,9,10] [6,7,9,10,12,8,11,13] (by kernel_rfl) (by kernel_rfl) (by kernel_rfl) ?_
  simp only[jk,Bv,eN,iN,Ew,fV,da,seval]
  refine me (f:=f) (m:=m) (iK (m:=m) (f:=f) (pc:=cL at_ cut ks) (nc:=[Sum.inl (.int .i64 cnt)]) (kc:=kc) (r0:=false) (r1:=false) (r2:=true) (r3:=true) (r4:=true) (r5:=false) (by simp only[ao,aq,ae,vR,seval]) (by simp only[ao,aq,ae,vR,seval]) (by simp only[ao,aq,ae,vR,seval]) (by simp only[ao,aq,ae,vR,seval]) (by simp only[ao,aq,ae,vR,seval]) (by simp only[ao,aq,ae,vR,seval])) dk (by omega) ?_
  simp only[jk,Bv,eN,iN,Ew,w1,fV,da,seval]
  have Um:bk at_ cnt (aO n+1)=false:=by simpa using S0
  have hb1: ¬ (cnt < at_∧at_≤cnt+((aO n+1:Nat):Int)):=of_decide_eq_false Um
  refine Kq (kc:=kc) (cut:=cut) (at_:=at_) (m:=m) (f:=f) (cnt:=cnt) (t:=6) (eY:=false) (ps:=ps) ⟨?_, ?_, ?_, ?_, ?_, ?_⟩ hk ?_ (by decide) hl hp hpf hm ha hn h0 (by omega) Um rfl ?_<;>try (simp only[ao,aq,ae,vR,seval];done)
  simp only[iZ,fV,da,seval]
  have dk2:=xl (at_:=at_) (cut:=cut) (cnt:=cnt+(aO n:Nat)+1) hk
  have hr1:(List.range' st nn).length=nn:=List.length_range'
  have hA: ∀ b ∈ List.range' st nn,b < m:=fun b hb=>by rw[List.mem_range'_1]at hb;omega
  have hne:List.range' st nn≠[]:=fun h=>by rw[h]at hr1;simp at hr1;omega
  by_cases Oo:bk at_ (cnt+(aO n:Nat)+1) nn=true
  ·have hb2:=of_decide_eq_true Oo
   refine .inr ⟨by kernel_rfl, ?_⟩
   simp only[iZ,fV,da,seval]
   refine dK (by kernel_rfl) [0,1] [2] [] [] [8,9] [14,15,16] (by kernel_rfl) (by kernel_rfl) (by kernel_rfl) ?_
   simp only[jk,Bv,eN,iN,Ew,fV,da,seval]
   refine rE (t:=7) (eY:=false) (by simp only[ao,aq,ae,vR,seval]) lI hls (by omega) QA (by omega) rfl fun c0 cs0 k1=> ?_
   simp only[jk,Bv,eN,iN,Ew,fV,da,seval]
   have e3:Sl 31 0 nn c0=Sl 31 0 (List.range' st nn).length c0:=by rw[hr1]
   rw[e3]
   refine Et (kc:=kc) (cut:=cut) (at_:=at_) (m:=m) (f:=lK f a n q pf) (cnt:=cnt+(aO n:Nat)+1) (t:=31) (eY:=true) (ps:=cs0) ⟨?_, ?_, ?_, ?_, ?_, ?_⟩ hk ?_ (by decide) k1 hA hne hm (by rw[hr1];omega) (by omega) (by omega) (by rw[hr1];exact Oo) ?_<;>try (simp only[iZ,ao,aq,ae,vR,seval];done)
   unfold dw
   rw[if_pos (show bk at_ cnt (aO n+1+nn)=true from decide_eq_true (by omega))]
   have e:gN kn kb (dO cut) f (qQ a n q pf st nn) (at_ - cnt - 1).toNat=jv (lK f a n q pf) (List.range' st nn) kn kb (dO cut) (at_ - (cnt+(aO n:Nat)+1) - 1).toNat:=by
    rw[qQ,rB,kU,if_neg (by omega),Bu,zZ (by rw[hr1];omega)]
    congr 1
    omega
   rw[e]
   exact uw (by decide) (by simp only[iZ,ae,vR,seval]) (by simp only[iZ,ae,vR,seval]) (by simp only[iZ,ae,vR,seval])
  ·have Un:bk at_ (cnt+(aO n:Nat)+1) nn=false:=by simpa using Oo
   have hb2: ¬ (cnt+(aO n:Nat)+1 < at_∧at_≤cnt+(aO n:Nat)+1+(nn:Int)):=of_decide_eq_false Un
   refine .inl ?_
   refine dK (by kernel_rfl) [0,1] [2,3] [] [] [8,9] [14,15,16,17] (by kernel_rfl) (by kernel_rfl) (by kernel_rfl) ?_
   simp only[iZ,jk,Bv,eN,iN,Ew,fV,da,seval]
   refine rE (t:=7) (eY:=false) (by simp only[ao,aq,ae,vR,seval]) lI hls (by omega) QA (by omega) rfl fun c0 cs0 k1=> ?_
   simp only[jk,Bv,eN,iN,Ew,fV,da,seval]
   have e3:Sl 31 0 nn c0=Sl 31 0 (List.range' st nn).length c0:=by rw[hr1]
   rw[e3]
   refine xh (kc:=kc) (cut:=cut) (at_:=at_) (m:=m) (f:=lK f a n q pf) (cnt:=cnt+(aO n:Nat)+1) (t:=31) (eY:=true) (ps:=cs0) ⟨?_, ?_, ?_, ?_, ?_, ?_⟩ hk ?_ (by decide) k1 hA hne hm (by rw[hr1];omega) (by omega) (by omega) (by rw[hr1];exact Un) ?_<;>try (simp only[iZ,ao,aq,ae,vR,seval];done)
   simp only[iZ,fV,da,seval]
   unfold dw
   rw[if_neg (fun h=>by have h9:=of_decide_eq_true h;omega)]
   have e:iY f (qQ a n q pf st nn)=qI (lK f a n q pf) (List.range' st nn):=by rw[qQ,Bt];rfl
   rw[e, ← hr1]
   simp only[hr1]
   refine Bo (by rfl) (by decide) ?_ ?_ ?_<;>(simp only[hr1,ae,vR,seval];done)
end Go.Proofs.YtkaamnnjeandlaaDoor
