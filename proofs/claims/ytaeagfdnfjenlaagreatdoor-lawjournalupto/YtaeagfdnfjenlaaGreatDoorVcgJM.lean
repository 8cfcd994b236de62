/-
  Sectors wiped: a write of zeros at each place, a flush.
-/
import Derived.Test.YtaeagfdnfjenlaaGreatDoorVcgJF
import Derived.Test.YtaeagfdnfjenlaaGreatDoorVcgWM
import Derived.Test.YtaeagfdnfjenlaaGreatDoorVcgBk
import Derived.Test.YtaeagfdnfjenlaaGreatDoorVcgWX
set_option maxHeartbeats 8000000
set_option maxRecDepth 20000
set_option linter.unusedSimpArgs false
set_option linter.unusedVariables false
set_option linter.unusedSectionVars false
namespace Go.Proofs.YtaeagfdnfjenlaaGreatDoor
open Go.cn
variable [aX]
def zF:Nat→Int:=fun _=>0
theorem lu:(List.replicate 64 (Sum.inl (Value.int .u8 0)):List SV)=ai .u8 64 zF:=rfl
def zL (A:List Nat):List Pd:=A.map fun a=>(a,zF)
theorem Ba {A:List Nat}:(zL A).length=A.length:=by simp[zL]
theorem Xb {A:List Nat} {j a:Nat} (h:A[j]? =some a):(zL A)[j]? =some (a,zF):=by simp[zL,h]
theorem Ss {A:List Nat} {m:Nat} (h: ∀ a ∈ A,a < m):Fit m (zL A):=fun p hp=>by
 simp only[zL,List.mem_map]at hp
 obtain ⟨a,ha,rfl⟩:=hp
 exact h a ha
def uk (f:Nat→Int) (A:List Nat):Nat→Int:=dT f (zL A)
def kV (f:Nat→Int) (A:List Nat) (kn:Nat) (kb:Nat→Bool) (cut T:Nat):Nat→Int:=fT (dT f (dO kn kb 0 ((zL A).take T))) (A.getD T 0) cut zF
def Cv (N c k:Nat):List (Nat×AV):=[(2,Ptr 7 0),(9,Sl 6 0 N c),(10,I .i64 N),(11,I .i64 k)]
def Fw (ps:List SV):List (Nat×aI):=[(6,⟨false,ps⟩),(7,⟨true,fP 0 1 2 3⟩)]
theorem Sv {N c k q:Nat}: ∀ x ∈ Cv N c k,AV.ren (upd (fun n=>n) 60 q) x.2=x.2∧AV.ok (fun n=>n < 61) x.2:=fun x hx=>by
 simp only[Cv,bQ]at hx
 rcases hx with rfl | rfl | rfl | rfl
 ·exact ⟨rfl,(by decide:7 < 61)⟩
 ·exact ⟨rfl,(by decide:6 < 61)⟩
 ·exact ⟨rfl,trivial⟩
 ·exact ⟨rfl,trivial⟩
theorem Sw {ps:List SV} (hp:ps.all SV.plain=true): ∀ x ∈ Fw ps,(5 < x.1∧x.1 < 60)∧ ∀ y ∈ x.2.cells,SV.ok (fun n=>n < 60) y:=fun x hx=>by
 simp only[Fw,bQ]at hx
 rcases hx with rfl | rfl
 ·exact ⟨⟨(by decide:5 < 6),(by decide:6 < 60)⟩,ao hp⟩
 ·exact ⟨⟨(by decide:5 < 7),(by decide:7 < 60)⟩,dY fun n hn=>by omega⟩
theorem Sx {m c0 kn:Nat} {kb:Nat→Bool} {f:Nat→Int} {A:List Nat} {ks:SV} {kc ps:List SV} {at_ cut cnt:Int} (hk:gU ks kn kb kc) (hl:gb ps A c0) (hA: ∀ a ∈ A,a < m) (hne:A≠[]) (hm:m≤8192) (hn:A.length≤8192) (h0:0≤cnt) (h1:cnt < 900000):
  ∀ c,Tryz.f70.body=some c→kT Tryz.prog [] [5] c (eX Tryz.prog [] 7 (bG at_ cnt A.length) ga (fun v out=>v=Sum.inr []∧out=lk (dg m (uk f A) (cnt+A.length)))
   (fun out=>out=lk (dg m (kV f A kn kb (eE cut) (at_ - cnt - 1).toNat) at_))) (cn.start [Ag (fP 0 1 2 3),Sl 6 0 A.length c0] (lk (Ca m f (cI at_ cut ks) kc cnt ps)) 7):=by
 intro c hc
 cases hc
 have hp:=hl.plain
 have fw: ∀ {M:Nat→Prop},(∀ x ∈ ps,SV.ok M x)=True:=eq_true (ao hp)
 have ZA: ∀ {M:Nat→Prop},M 5→ ∀ x ∈ cI at_ cut ks,SV.ok M x:=fun h5 x hx=>SV.aL (fun n hn=>by subst hn;exact h5) (fD hk x hx)
 have hN:0 < A.length:=List.length_pos_iff.2 hne
 have hz:((A.length:Int)==0)=false:=by simpa using hne
 simp only[Ca,hz,bj,bI,aq,ay,bK,bm,fw,vR,seval]
 have hW: ∀ k:Nat,k < A.length→cnt+(k:Int)+1=at_→bG at_ cnt A.length=true:=fun k hk h=>decide_eq_true (by omega)
 have ZB: ∀ {s:AS} {G:Nat→Int},bG at_ cnt A.length=true→s.box 2=some ⟨true,[Sum.inl (.slice none 0 0)]⟩→s.box 3=some ⟨true,[Sum.inl (.int .i64 at_)]⟩→s.box 4=some ⟨true,ai .u8 (64*m) G⟩→G=kV f A kn kb (eE cut) (at_ - cnt - 1).toNat→
   eX Tryz.prog [] 7 (bG at_ cnt A.length) ga (fun v out=>v=Sum.inr []∧out=lk (dg m (uk f A) (cnt+A.length))) (fun out=>out=lk (dg m (kV f A kn kb (eE cut) (at_ - cnt - 1).toNat) at_)) (.panic ga) s:=fun {s G} hf h2 h3 h4 e=>by
  subst e
  unfold eX
  rw[if_pos hf]
  exact yy (by decide) h2 h3 h4
 refine mQ A.length (fun k t=> ¬ (cnt < at_∧at_≤cnt+k)∧((k=0∧t=pF (Cv A.length c0 k) ([(0,⟨false,[Sum.inr (.inr (4,0,m,m))]⟩),(1,⟨false,cI at_ cut ks⟩),(2,⟨true,[Sum.inl (.slice none 0 0)]⟩),(3,⟨true,[Sum.inl (.int .i64 (cnt+k))]⟩),(4,⟨true,ai .u8 (64*m) f⟩),(5,⟨false,kc⟩),(6,⟨false,ps⟩),(7,⟨true,fP 0 1 2 3⟩)]) 61)∨
  (0 < k∧ ∃ c es,gj es ((zL A).take k) c∧t=pF (Cv A.length c0 k) (J6 m f (cI at_ cut ks) kc (cnt+k) k c es (Fw ps)) 61))) ?_ ?_ ?_ ?_
 ·rintro k t ⟨_,⟨_,rfl⟩ | ⟨_,_,_,_,rfl⟩⟩<;>(show (14:Nat)≤61;decide)
 ·refine ⟨_,⟨by omega, .inl ⟨rfl,rfl⟩⟩,ev.qa ?_⟩
  simp only[Cv,Int.add_zero,bj,fw,vR,seval]
  exact ⟨⟨(by decide:4 < 61),rfl⟩,ZA (by decide),⟨trivial,rfl⟩,ao hk.c,dY fun n hn=>by omega⟩
 ·rintro k t hk2 ⟨hs,hI⟩
  obtain ⟨a,ha⟩: ∃ a,A[k]? =some a:=⟨_,List.getElem?_eq_getElem hk2⟩
  have ham:a < m:=hA a (List.mem_of_getElem? ha)
  have hbk:=Xb ha
  have xR:((zL A).take k).length=k:=by rw[List.length_take,Ba];omega
  have e1:ps[k]? =some (Sum.inl (.int .i64 (a:Int))):=hl.get ha
  have e2:(k+1≤ps.length)=True:=eq_true (List.getElem?_eq_some_iff.1 e1).1
  have e5:(at_ - cnt - 1).toNat=k→fT (dT f (dO kn kb 0 ((zL A).take k))) a (eE cut) zF=kV f A kn kb (eE cut) (at_ - cnt - 1).toNat:=fun e=>by
   unfold kV
   rw[e,show A.getD k 0=a by rw[List.getD_eq_getElem?_getD,ha];rfl]
  have qc: ¬ (cnt < at_∧at_≤cnt+k)→cnt+k+1≠at_→ ¬ (cnt < at_∧at_≤cnt+(k+1:Nat)):=fun h h2=>by omega
  have c1:cnt+(k:Int)+1=cnt+((k+1:Nat):Int):=by omega
  have QW: ∀ {j:Nat},j=0→(zL A).take j=[]:=fun h=>by rw[h];rfl
  rcases hI with ⟨ui,rfl⟩ | ⟨ui,c,es,hg,rfl⟩
  ·by_cases pG:cnt+k+1=at_
   ·simp only[Cv,Fw,J6,aF,aP hk2,decide_true,e1,e2,lu,bU k (by omega),bj,bI,aq,ay,bK,bm,fw,vR,seval]
    refine .inr ⟨by kernel_rfl, ?_⟩
    simp only[Cv,Fw,J6,aF,aP hk2,decide_true,e1,e2,lu,bU k (by omega),bj,bI,aq,ay,bK,bm,fw,vR,seval]
    refine ph (m:=m) (f:=f) (kc:=kc) (cut:=cut) (at_:=at_) (cnt:=cnt+k) ⟨?_, ?_, ?_, ?_, ?_, ?_⟩ hk (by omega) (by omega) (by omega) ham pG ?_<;>try (simp only[aq,ay,vR,seval];done)
    simp only[fh,fI]
    refine ZB (G:=fT f a (eE cut) zF) (hW k hk2 pG) ?_ ?_ ?_ ?_
    ·simp only[ae,vR,seval]
    ·simp only[pG,ae,vR,seval]
    ·simp only[ae,vR,seval]
    ·rw[← e5 (by omega),QW ui]
     rfl
   ·simp only[Cv,Fw,J6,aF,aP hk2,decide_true,e1,e2,lu,bU k (by omega),bj,bI,aq,ay,bK,bm,fw,vR,seval]
    refine .inl ?_
    refine xO (m:=m) (f:=f) (kc:=kc) (cut:=cut) (at_:=at_) (cnt:=cnt+k) ⟨?_, ?_, ?_, ?_, ?_, ?_⟩ hk (by omega) (by omega) pG fun c es hg=> ?_
    all_goals try (simp only[aq,ay,vR,seval];done)
    simp only[Cv,Fw,J6,aF,aP hk2,decide_true,e1,e2,lu,bU k (by omega),bj,bI,aq,ay,bK,bm,fw,vR,seval]
    refine ⟨_,⟨qc hs pG, .inr ⟨by omega,c,es, ?_,rfl⟩⟩, ?_⟩
    ·rw[take_succ hbk]
     rw[QW ui];exact hg
    ·refine Eb (m':=14) (q:=69) (by decide) (by decide) ?_ Sv (ZA (by decide)) hk.c hg.shows.plain ?_ (Sw hp) ?_ ?_ ?_ ?_ ?_ ?_ ?_
     ·simp only[Cv,Fw,J5,seval]
     ·simp only[Cv,Fw,J5,seval]
     all_goals (try subst ui);(try simp only[xR,c1,Cv,Fw,J5,seval]);(try simp only[Int.add_zero])
  ·by_cases pG:cnt+k+1=at_
   ·simp only[Cv,Fw,J6,aF,aP hk2,decide_true,e1,e2,lu,bU k (by omega),bj,bI,aq,ay,bK,bm,fw,vR,seval]
    refine .inr ⟨by kernel_rfl, ?_⟩
    simp only[Cv,Fw,J6,aF,aP hk2,decide_true,e1,e2,lu,bU k (by omega),bj,bI,aq,ay,bK,bm,fw,vR,seval]
    refine A8 (m:=m) (f:=f) (kc:=kc) (cut:=cut) (at_:=at_) (cnt:=cnt+k) (L:=(zL A).take k) (w:=60) (c0:=c) (wc:=es) ⟨?_, ?_, ?_, ?_, ?_, ?_⟩ ?_ (by decide) hg (fun h=>by rw[h]at xR;simp at xR;omega) (by rw[xR];omega) (IX (Ss hA)) hk (by omega) (by omega) (by omega) ham pG ?_<;>try (simp only[xR,aq,ay,vR,seval];done)
    simp only[fh,fI]
    refine ZB (G:=fT (dT f (dO kn kb 0 ((zL A).take k))) a (eE cut) zF) (hW k hk2 pG) ?_ ?_ ?_ ?_
    ·simp only[ae,vR,seval]
    ·simp only[pG,ae,vR,seval]
    ·simp only[ae,vR,seval]
    ·exact e5 (by omega)
   ·simp only[Cv,Fw,J6,aF,aP hk2,decide_true,e1,e2,lu,bU k (by omega),bj,bI,aq,ay,bK,bm,fw,vR,seval]
    refine .inl ?_
    refine xQ (m:=m) (f:=f) (kc:=kc) (cut:=cut) (at_:=at_) (cnt:=cnt+k) (L:=(zL A).take k) (w:=60) (c0:=c) (wc:=es) ⟨?_, ?_, ?_, ?_, ?_, ?_⟩ ?_ (by decide) hg (fun h=>by rw[h]at xR;simp at xR;omega) (by rw[xR];omega) hk (by omega) (by omega) pG fun c' es' hg'=> ?_
    all_goals try (simp only[xR,aq,ay,vR,seval];done)
    simp only[Cv,Fw,J6,aF,aP hk2,decide_true,e1,e2,lu,bU k (by omega),bj,bI,aq,ay,bK,bm,fw,vR,seval]
    refine ⟨_,⟨qc hs pG, .inr ⟨by omega,c',es', ?_,rfl⟩⟩, ?_⟩
    ·rw[take_succ hbk]
     exact hg'
    ·refine Eb (m':=14) (q:=69) (by decide) (by decide) ?_ Sv (ZA (by decide)) hk.c hg'.shows.plain ?_ (Sw hp) ?_ ?_ ?_ ?_ ?_ ?_ ?_
     ·simp only[Cv,Fw,J5,seval]
     ·simp only[Cv,Fw,J5,seval]
     all_goals (try subst ui);(try simp only[xR,c1,Cv,Fw,J5,seval]);(try simp only[Int.add_zero])
 ·rintro t ⟨hs,hI⟩
  have xR:(zL A).take A.length=zL A:=List.take_of_length_le (by rw[Ba];exact Nat.le_refl _)
  rcases hI with ⟨ui,rfl⟩ | ⟨ui,c,es,hg,rfl⟩
  ·omega
  ·simp only[Cv,Fw,J6,aF,Int.lt_irrefl,decide_false,bj,bI,aq,ay,bK,bm,fw,vR,seval]
   have VN:(zL A).length=A.length:=Ba
   rw[xR]at hg
   refine nD (m:=m) (f:=f) (kc:=kc) (cut:=cut) (at_:=at_) (cnt:=cnt+A.length) (L:=zL A) (w:=60) (c0:=c) (wc:=es) ⟨?_, ?_, ?_, ?_, ?_, ?_⟩ ?_ (by decide) hg (fun h=>by rw[h]at VN;simp at VN;omega) (by rw[VN];omega) (Ss hA) hk (by omega) ?_<;>try (simp only[VN,aq,ay,vR,seval];done)
   simp only[Cv,Fw,J6,aF,Int.lt_irrefl,decide_false,bj,bI,aq,ay,bK,bm,fw,vR,seval]
   unfold eX
   rw[if_neg (fun h=>by have h9:=of_decide_eq_true h;omega)]
   refine Fu (by rfl) (by decide) ?_ ?_ ?_<;>(simp only[uk,ae,vR,seval];done)
def bA (st nx:Nat) (q:Int) (sv:SV):List SV:=[Sum.inl (.int .i64 (st:Int)),Sum.inl (.int .i64 (nx:Int)),Sum.inl (.int .u64 q),sv]
theorem kg {st nx:Nat} {q:Int} {sv:SV}:(bA st nx q sv).length=4:=rfl
theorem l9 {r:Nat→Nat} {st nx:Nat} {q:Int} {sv:SV}:AV.ren r (Ag (bA st nx q sv))=Ag (bA st nx q (SV.ren r sv)):=rfl
theorem gB {st nx:Nat} {q:Int} {sv:SV} {M:Nat→Prop} (h:SV.ok M sv): ∀ x ∈ bA st nx q sv,SV.ok M x:=fun x hx=>by
 simp only[bA,bQ]at hx
 rcases hx with rfl | rfl | rfl | rfl
 ·exact ⟨trivial,rfl⟩
 ·exact ⟨trivial,rfl⟩
 ·exact ⟨trivial,rfl⟩
 ·exact h
theorem VP {st nx:Nat} {q:Int} {sv:SV} {M:Nat→Prop} (h:SV.ok M sv): ∀ v ∈ [Ag (bA st nx q sv)],AV.ok M v:=fun v hv=>by
 rw[List.mem_singleton]at hv
 subst hv
 exact gB h
theorem ot {g:Nat→Int} {x:SV} {k:IntKind}:splice (ai k 1 g) 0 [x]=[x]:=rfl
theorem IZ {s k:Nat}:List.range' s (k+1)=List.range' s k++[s+k]:=by rw[List.range'_1_concat]
theorem Sy {st n:Nat} {q:Int} {sv:SV} {f:Nat→Int} {np:Nat} {ps:List SV} (hl:cS 0 sv np f ps) (hp:ps.all SV.plain=true) (hst:st≤100000) (hn:0 < n) (hn1:n≤100000):
  bd Tryz.prog 87 [Ag (bA st (st+n) q sv)] 1 (lk [(0,⟨false,ps⟩)]) (fun v out=> ∃ c cs,gb cs (List.range' st n) c∧v=Sl 1 0 n c∧out=lk [(1,⟨true,cs⟩)]):=by
 refine aG Tryz.func87 rfl (by kernel_rfl) (by simp[Tryz.ntmps87]) Tryz.tZ (VP (hl.ok (by decide))) fF (fG hp) ?_
 have hok: ∀ {M:Nat→Prop},M 0→SV.ok M sv:=fun h=>hl.ok h
 have hone:=(hl.ok (M:=fun n=>n < 1) (by decide)).2
 have nC: ∀ {M:Nat→Prop},(∀ x ∈ ps,SV.ok M x)=True:=eq_true (ao hp)
 simp only[Tryz.results87,bA,vR,seval]
 refine RD n (fun k t=>(k=0∧t=pF [(1,Ptr 1 0),(3,V (.slice none 0 0)),(4,I .i64 (st+k:Nat))] [(0,⟨false,ps⟩),(1,⟨true,bA st (st+n) q sv⟩)] 61)∨
  (0 < k∧ ∃ c es,gb es (List.range' st k) c∧t=pF [(3,Sl 60 0 k c),(1,Ptr 1 0),(4,I .i64 (st+k:Nat))] [(60,⟨true,es⟩),(0,⟨false,ps⟩),(1,⟨true,bA st (st+n) q sv⟩)] 61)) ?_ ?_ ?_ ?_
 ·rintro k t (⟨_,rfl⟩ | ⟨_,_,_,_,rfl⟩)<;>(show (7:Nat)≤61;decide)
 ·refine ⟨_, .inl ⟨rfl,rfl⟩,ev.qa ?_⟩
  simp only[bA,nC,vR,seval]
  exact ⟨trivial,hok (by decide)⟩
 ·rintro k t hk hI
  have hlt:st+k < st+n:=by omega
  have h1:IntKind.i64.wrap (((st+k:Nat):Int)+1)=((st+(k+1):Nat):Int):=by rw[wrap_i64 _ (by omega) (by omega)];omega
  have h2:=IZ (s:=st) (k:=k)
  have hL:(List.range' st k).length=k:=List.length_range'
  have X: ∀ x ∈ [(0,(⟨false,ps⟩:aI)),(1,⟨true,bA st (st+n) q sv⟩)],x.1 < 60∧ ∀ y ∈ x.2.cells,SV.ok (fun n=>n < 60) y:=fun x hx=>by
   simp only[bQ]at hx
   rcases hx with rfl | rfl
   ·exact ⟨(by decide:0 < 60),ao hp⟩
   ·exact ⟨(by decide:1 < 60),gB (hok (by decide))⟩
  rcases hI with ⟨ui,rfl⟩ | ⟨ui,c,es,hg,rfl⟩
  ·simp only[aF,aP hlt,decide_true,h1,h2,bA,mT,ot,aq,ay,vR,seval]
   refine wC (a:=st+k) (eD:=true) Tryz.xI Tryz.D3 ?_ (by decide) fun c3 IL fS=> ?_
   ·simp only[ot,aq,ay,ae,vR,seval]
   simp only[aF,aP hlt,decide_true,h1,h2,bA,mT,ot,aq,ay,vR,seval]
   refine ⟨_, .inr ⟨by omega,c3,IL,by subst ui;exact fS,rfl⟩,wD (q:=68) (by decide) (by decide) ?_ ?_ fS.plain ?_ X ?_⟩
   all_goals (try simp only[bA,jM,iZ,nu,ui,vR,seval])
   all_goals first | exact ⟨rfl,rfl⟩ | trivial
  ·simp only[aF,aP hlt,decide_true,h1,h2,bA,mT,ot,aq,ay,vR,seval]
   have hg':=hg
   rw[← hL]at hg'
   have e3:Sl 60 0 k c=Sl 60 0 (List.range' st k).length c:=by rw[hL]
   rw[e3]
   refine A9 (a:=st+k) (eD:=true) Tryz.xI Tryz.D3 hg ?_ ?_ (by decide) (by omega) (by decide) fun c3 IL fS=> ?_
   ·simp only[ot,aq,ay,ae,vR,seval]
   ·simp only[ot,aq,ay,ae,vR,seval]
   rw[hL]
   simp only[aF,aP hlt,decide_true,h1,h2,bA,mT,ot,aq,ay,vR,seval]
   refine ⟨_, .inr ⟨by omega,c3,IL,fS,rfl⟩,wD (q:=68) (by decide) (by decide) ?_ ?_ fS.plain ?_ X ?_⟩
   all_goals (try simp only[bA,jM,iZ,nu,vR,seval])
   all_goals first | exact ⟨rfl,rfl⟩ | trivial
 ·rintro t (⟨ui,rfl⟩ | ⟨ui,c,es,hg,rfl⟩)
  ·omega
  ·simp only[aF,Int.lt_irrefl,decide_false,bA,mT,aq,ay,vR,seval]
   exact gR (k:=1) (q:=60) (cs:=es) (by decide) rfl hg.plain ⟨c,es,hg,rfl,rfl⟩
theorem qI {s:AS} {k:Nat} {v:AV} {Post:AV→(Nat→Option aI)→Prop} (hv:AV.ok (fun n=>n < k) v) (h:Post v (fun _=>none)):m8 k Post v s:=
 ⟨k,v,fun _=>none,Nat.le_refl k,(ym (k:=k) (fun n hn=>KA hn) hv).symm,AV.aL (fun n hn=>by omega) hv,fun n b hb=>(by cases hb),h⟩
def dH (l:List SV) (e:Value):AV:= .inr [.inr l, .inl (.inl e)]
theorem NY {l:List SV} {e:Value} {M:Nat→Prop} (hl: ∀ x ∈ l,SV.ok M x) (he:CV.ok M (Sum.inl (Sum.inl e))):AV.ok M (dH l e):=fun x hx=>by
 simp only[bQ]at hx
 rcases hx with rfl | rfl
 ·exact hl
 ·exact he
def fK:List SV:=[Sum.inl (.int .u64 0),Sum.inl (.slice none 0 0)]
def pK (q:Int) (sv:SV):AV:=if q=18446744073709551615 then dH fK (cH 3) else dH (bJ (q+1) sv) .nilIface
def pL:dc:=
 let e0:dc:=(.cons 3 .nil .nil)
 let e1:dc:=(.cons 2 e0 .nil)
 let e2:dc:=(.cons 1 e0 .nil)
 let e3:dc:=(.cons 1 e1 (.cons 2 e2 .nil))
 let e4:dc:=(.cons 0 e1 .nil)
 let e5:dc:=(.cons 0 e3 (.cons 1 e4 .nil))
 e5
theorem I0 {st nx:Nat} {q:Int} {sv sw:SV} {f f0:Nat→Int} {np n0:Nat} {ps cs:List SV} (hl:cS 0 sv np f ps) (hp:ps.all SV.plain=true) (rN:cS 1 sw n0 f0 cs) (hc:cs.all SV.plain=true) (hq0:0≤q) (hq:q≤18446744073709551615):
  bd Tryz.prog 68 [Ag (bA st nx q sv),Sum.inl (Sum.inl sw)] 2 (lk [(0,⟨false,ps⟩),(1,⟨false,cs⟩)]) (fun v out=>v=pK q sw∧out=fun _=>none):=by
 refine cy Tryz.func68 rfl (by kernel_rfl) [2] [] (by simp[Tryz.ntmps68]) Tryz.tO (fun v hv=>by
  simp only[bQ]at hv
  rcases hv with rfl | rfl
  ·exact gB (hl.ok (M:=fun n=>n < 2) (by decide))
  ·exact (rN.ok (M:=fun n=>n < 2) (by decide)).1) pX (pY hp hc) ?_
 have hone:=(rN.ok (M:=fun n=>n < 2) (by decide)).2
 simp only[Tryz.results68,bA,ib,seval]
 by_cases VQ:q=18446744073709551615
 ·have e1:(q==18446744073709551615)=true:=by simpa using VQ
  simp only[e1,Tryz.bO,ib,seval]
  refine lq (by kernel_rfl) [] [] [] [0,1,2,3] [] [] [10,11,5] pL (by kernel_rfl) (by kernel_rfl) (by kernel_rfl) (by kernel_rfl) (fun t ht=>(by cases ht)) ?_
  simp only[pL,jg,e1,sn,Tryz.bO,ib,seval]
  have fin: ∀ {s:AS},m8 2 (fun v out=>v=pK q sw∧out=fun _=>none) (dH fK (cH 3)) s:=fun {s}=>by
   have e:pK q sw=dH fK (cH 3):=if_pos VQ
   exact aJ rfl ⟨e.symm,rfl⟩
  first | exact fin | exact ⟨fin,fin⟩ | exact ⟨⟨fin,fin⟩,fin⟩ | exact ⟨fin,fin,fin⟩
 ·have e1:(q==18446744073709551615)=false:=by simpa using VQ
  have e2:IntKind.u64.wrap (q+1)=q+1:=bT _ (by omega) (by omega)
  simp only[e1,e2,AX hone,IA,IB,sn,Tryz.bO,ib,seval]
  have e:pK q sw=dH (bJ (q+1) sw) .nilIface:=if_neg VQ
  exact qI (NY (lW (rN.ok (by decide))) trivial) ⟨e.symm,rfl⟩
def pN (n:Nat) (f g:Nat→Int):Bool:=(List.range n).all fun i=>f i==g i
theorem gI {n:Nat} {f g:Nat→Int}:pN n f g=true↔ ∀ i,i < n→f i=g i:=by
 simp[pN,List.all_eq_true,List.mem_range]
theorem kX {f g:Nat→Int}:Wr .neq 64 (gC .u8 (ai .u8 64 f)) (gC .u8 (ai .u8 64 g))=some (some (B (!pN 64 f g)),none):=by
 have e:decide ((List.range 64).map f=(List.range 64).map g)=pN 64 f g:=by
  rw[Bool.eq_iff_iff,decide_eq_true_iff,gI,List.map_inj_left]
  simp[List.mem_range]
 rw[uK,uK,Vf,if_pos ⟨by simp,by simp⟩,e]
theorem NZ {f g:Nat→Int}:Wr .eql 64 (gC .u8 (ai .u8 64 f)) (gC .u8 (ai .u8 64 g))=some (some (B (pN 64 f g)),none):=by
 have e:decide ((List.range 64).map f=(List.range 64).map g)=pN 64 f g:=by
  rw[Bool.eq_iff_iff,decide_eq_true_iff,gI,List.map_inj_left]
  simp[List.mem_range]
 rw[uK,uK,Ve,if_pos ⟨by simp,by simp⟩,e]
theorem VR {n c0 c1:Nat} {f g:Nat→Int} (hn:n≤1048576):
  bd Tryz.prog 93 [Sl 0 0 n c0,Sl 1 0 n c1] 2 (lk [(0,⟨false,ai .u8 (64*n) f⟩),(1,⟨false,ai .u8 (64*n) g⟩)]) (fun v out=>v=B (pN (64*n) f g)∧out=fun _=>none):=by
 refine cy Tryz.func93 rfl (by kernel_rfl) [6] [] (by simp[Tryz.ntmps93]) Tryz.K1 (by simp[AV.ok,CV.ok,SV.names]) pX (pY az az) ?_
 have nC: ∀ {M:Nat→Prop} {h:Nat→Int} {N:Nat},(∀ x ∈ ai .u8 N h,SV.ok M x)=True:=eq_true (ao az)
 have e0:((n:Int) != (n:Int))=false:=by simp
 simp only[Tryz.results93,e0,ib,seval]
 refine mQ n (fun k t=>(∀ i,i < 64*k→f i=g i)∧t=pF [(0,Sl 0 0 n c0),(1,Sl 1 0 n c1),(12,I .i64 n),(13,I .i64 k)] [(0,⟨false,ai .u8 (64*n) f⟩),(1,⟨false,ai .u8 (64*n) g⟩)] 61) ?_ ?_ ?_ ?_
 ·rintro k t ⟨_,rfl⟩
  show (11:Nat)≤61
  decide
 ·refine ⟨_,⟨fun i hi=>by omega,rfl⟩,ev.qa ?_⟩
  simp only[nC,vR,seval]
 ·rintro k t hk ⟨hI,rfl⟩
  have a4:(k*64+64≤64*n)=True:=eq_true (by omega)
  simp only[aF,aP hk,decide_true,a4,ib,seval]
  refine eW (by kernel_rfl) [0,1,2,3,4,5,6,7,8] [] [] [] [] [16,17,18,19,20,21,22,23,24] (by kernel_rfl) (by kernel_rfl) (by kernel_rfl) ?_
  have r1:List.take 64 (List.drop (k*64) (ai .u8 (64*n) f))=ai .u8 64 (fun i=>f (k*64+i)):=mC _ _ _ _ _ (by omega)
  have r2:List.take 64 (List.drop (k*64) (ai .u8 (64*n) g))=ai .u8 64 (fun i=>g (k*64+i)):=mC _ _ _ _ _ (by omega)
  by_cases he:pN 64 (fun i=>f (k*64+i)) (fun i=>g (k*64+i))=true
  ·simp only[aF,aP hk,decide_true,a4,r1,r2,kX,he,Bool.not_true,Bool.not_false,bU k (by omega),ib,seval]
   refine ⟨_,⟨fun i hi=> ?_,rfl⟩,ev.qa ?_⟩
   ·by_cases hi2:i < 64*k
    ·exact hI i hi2
    ·have:=gI.1 he (i - k*64) (by omega)
     rwa [show k*64+(i - k*64)=i by omega]at this
   ·simp only[nC,ib,seval]
  ·have he':pN 64 (fun i=>f (k*64+i)) (fun i=>g (k*64+i))=false:=by simpa using he
   simp only[aF,aP hk,decide_true,a4,r1,r2,kX,he',Bool.not_true,Bool.not_false,bU k (by omega),ib,seval]
   refine aJ rfl ⟨congrArg B (Eq.symm ?_),rfl⟩
   rw[← Bool.not_eq_true]
   exact fun h=>he (gI.2 fun i hi=>gI.1 h _ (by omega))
 ·rintro t ⟨hI,rfl⟩
  simp only[aF,Int.lt_irrefl,decide_false,ib,seval]
  exact aJ rfl ⟨congrArg B (gI.2 hI).symm,rfl⟩
def bB (h:Nat→Int):Int:=p9 (fun i=>h (1+i)) 8
def Cw (h:Nat→Int):Int:=p9 (fun i=>h (9+i)) 4
def aN (h:Nat→Int):Nat:=(Cw h).toNat
def aB (f:Nat→Int) (a:Nat):Nat→Int:=fun i=>f (a*64+i)
def dP (f:Nat→Int) (a:Nat):Nat→Int:=fun i=>f ((a+1)*64+i)
def jd (f:Nat→Int) (a e:Nat):Bool:= !decide (bB (aB f a)=0)&&decide (aO (aN (aB f a))≤e - a)
def gP (f:Nat→Int) (a:Nat):Bool:=pN 64 (lC (bB (aB f a)) (aN (aB f a)) (dP f a)) (aB f a)&&pN (64*aT (aN (aB f a))) (iL (aN (aB f a)) (dP f a)) (dP f a)
def fy (l:List SV) (b:Bool):AV:= .inr [.inr l, .inl (.inl (.bool b))]
def Sz (k:Nat) (f:Nat→Int) (a e:Nat) (v:AV) (out:Nat→Option aI):Prop:=
 (jd f a e=false∧v=fy fK false∧out=fun _=>none)∨
 (jd f a e=true∧ ∃ c cs,aY cs 0 (aN (aB f a)) (dP f a)∧aN (aB f a)≤c∧cs.all SV.plain=true∧v=fy (bJ (bB (aB f a)) (.inr (.inr (k,0,aN (aB f a),c)))) (gP f a)∧out=lk [(k,⟨true,cs⟩)])
theorem xS {s:AS} {nm t o n c N:Nat} {eD:Bool} {h:Nat→Int} (hb:s.box t=some ⟨eD,ai .u8 N h⟩) (hh:eJ h) (hN:o+n≤N) (hn:n≤8) {dst:Option Nat} {K:AS→Prop} (hk:K (s.put dst (some (I .u64 (p9 (fun i=>h (o+i)) n))))):av Tryz.prog nm 92 (some [Sl t o n c]) dst K s:=
 (Si (c:=c) (f:=fun i=>h (o+i)) (fun i=>hh _) (fun i hi=>bN .u8 N h (o+i) (by omega)) az hn).cG (fun _=>t) (bZ hb az) rfl rfl hk
theorem wE {s:AS} {nm m lo n:Nat} {f:Nat→Int} {pc nc kc:List SV} (hd:pb s (kU m f pc nc kc)) (h:iy pc nc kc) (hm:m≤1048576) (hn:lo+n≤m) {x:Int} (hx:x=((lo+n:Nat):Int)) {dst:Option Nat} {K:AS→Prop}
  (hk:K (({ s with box:=upd s.box nm (some ⟨true,ai .u8 (64*n) (fun i=>f (lo*64+i))⟩) }:AS).put dst (some (Sl nm 0 n n)))):av Tryz.prog nm 58 (some [Ag (fP 0 1 2 3),I .i64 lo,I .i64 x]) dst K s:=by
 subst hx
 refine (su (n:=n) h hm hn).av (fun n=>n) none (hd.fits kJ) (fC _) ?_
 rintro v out ⟨rfl,rfl⟩ _
 rw[bX az]
 have e2:AV.ren (df (fun n=>n) 6 nm) (Sl 6 0 n n)=Sl nm 0 n n:=by
  show Sl (df (fun n=>n) 6 nm 6) 0 n n=_
  rw[gF]
 rw[e2]
 exact hk
theorem I1 {s:AS} {nm t m c:Nat} {eD:Bool} {f:Nat→Int} (hb:s.box t=some ⟨eD,ai .u8 (64*m) f⟩) (hm:m≤1048576) {dst:Option Nat} {K:AS→Prop}
  (hk: ∀ c' cs',dQ cs' 0 (64*m) c' f→K (({ s with box:=upd s.box nm (some ⟨true,cs'⟩) }:AS).put dst (some (Sl nm 0 (64*m) c')))):av Tryz.prog nm 57 (some [Sl t 0 m c]) dst K s:=by
 refine (IC (eD:=false) (c:=c) hm).av (fun _=>t) none (bZ hb az) rfl ?_
 rintro v out ⟨c',tail,rfl,rfl,h1,h2,h3⟩ _
 rw[bX (bY h3)]
 have e2:AV.ren (df (fun _=>t) 1 nm) (Sl 1 0 (64*m) c')=Sl nm 0 (64*m) c':=by
  show Sl (df (fun _=>t) 1 nm 1) 0 _ _=_
  rw[gF]
 rw[e2]
 exact hk c' _ ⟨by rw[List.length_append,aD,h2];omega,h1,bY h3,dy⟩
theorem I2 {s:AS} {nm t n:Nat} {r0:Bool} {cs:List SV} {f:Nat→Int} {q:Int} {sv:SV} (hb:s.box t=some ⟨r0,cs⟩) (hl:cS t sv n f cs) (hs: ∀ M:Nat→Prop,SV.ok M sv→M t) (hp:cs.all SV.plain=true) (hf:eJ f) (hn:n < 16777216) {ops:Array Oper} {i:Nat} {dst:Option Nat} {K:AS→Prop}
  (hk:K (s.put dst (some (Ag (ai .u8 64 (lC q n f)))))):km Tryz.prog ops i nm 56 (some [Ag (bJ q sv)]) dst K s:=by
 obtain ⟨s0,h0,h1⟩:=hl.iW 0
 refine (IU (q:=q) h0 hp hf hn).eV (fun _=>t) (bZ hb hp) az ?_ (fun M hM n hn=>hs M ((hM (Ag (bJ q sv)) (List.mem_singleton.2 rfl): ∀ x ∈ bJ q sv,SV.ok M x) sv (by simp[bJ]))) hk
 simp only[List.map_cons,List.map_nil,j8,h1 (fun _=>t) rfl]
theorem PT {s:AS} {nm t n:Nat} {r0:Bool} {cs:List SV} {f:Nat→Int} {q:Int} {sv:SV} (hb:s.box t=some ⟨r0,cs⟩) (hl:cS t sv n f cs) (hs: ∀ M:Nat→Prop,SV.ok M sv→M t) (hp:cs.all SV.plain=true) (hn:n < 16777216) {ops:Array Oper} {i:Nat} {dst:Option Nat} {K:AS→Prop}
  (hk:K ((⟨s.env,upd s.box nm (some ⟨true,ai .u8 (64*aT n) (iL n f)⟩),s.next⟩:AS).put dst (some (Sl nm 0 (aT n) (aT n))))):km Tryz.prog ops i nm 55 (some [Ag (bJ q sv)]) dst K s:=by
 obtain ⟨s0,h0,h1⟩:=hl.iW 0
 refine .inr (.inl ⟨(some (Sl nm 0 (aT n) (aT n)),some (.inl (ai .u8 (64*aT n) (iL n f)))),(Sq (q:=q) h0 hp hn).reads (fun _=>t) (bZ hb hp) ?_ (fun M hM n hn=>hs M ((hM (Ag (bJ q sv)) (List.mem_singleton.2 rfl): ∀ x ∈ bJ q sv,SV.ok M x) sv (by simp[bJ]))) ?_ ?_,hk⟩)
 ·simp only[List.map_cons,List.map_nil,j8,h1 (fun _=>t) rfl]
 ·rintro v out ⟨rfl,rfl⟩
  have e:AV.ren (df (fun _=>t) 1 nm) (Sl 1 0 (aT n) (aT n))=Sl nm 0 (aT n) (aT n):=by show Sl (df (fun _=>t) 1 nm 1) 0 _ _=_;rw[gF]
  simp[Ky,lk,au az,e]
 ·rintro e rfl
  exact .inr ⟨_,rfl⟩
theorem Lq {s:AS} {nm t u n c0 c1:Nat} {r0 r1:Bool} {f g:Nat→Int} (hb:s.box t=some ⟨r0,ai .u8 (64*n) f⟩) (hb':s.box u=some ⟨r1,ai .u8 (64*n) g⟩) (hn:n≤1048576) {ops:Array Oper} {i:Nat} {dst:Option Nat} {K:AS→Prop}
  (hk:K (s.put dst (some (B (pN (64*n) f g))))):km Tryz.prog ops i nm 93 (some [Sl t 0 n c0,Sl u 0 n c1]) dst K s:=
 (VR (c0:=c0) (c1:=c1) hn).eV (two t u) (jq hb az hb' az) rfl rfl (fun M hM n hn=>by
  have h1:=hM _ (List.mem_cons_self ..)
  have h2:=hM _ (List.mem_cons_of_mem _ (List.mem_cons_self ..))
  rcases (show n=0∨n=1 by omega) with rfl | rfl
  ·exact h1
  ·exact h2) hk
theorem VT {s:AS} {k q n c:Nat} {x:Int} {b:Bool} {cs:List SV} {Post:AV→(Nat→Option aI)→Prop} (hq:k≤q) (hb:s.box q=some ⟨true,cs⟩) (hp:cs.all SV.plain=true)
  (h:Post (fy (bJ x (.inr (.inr (k,0,n,c)))) b) (lk [(k,⟨true,cs⟩)])):m8 k Post (fy (bJ x (.inr (.inr (q,0,n,c)))) b) s:=by
 refine dV (q:=q) (v0:=fy (bJ x (.inr (.inr (k,0,n,c)))) b) hq ?_ (fun y hy=> ?_) (fun y hy=> ?_) h
 ·simp only[fy,bJ,AV.ren,CV.ren,List.map_cons,List.map_nil,SV.ren,fj,kt]
 ·simp only[bQ]at hy
  rcases hy with rfl | rfl
  ·exact lW ⟨Nat.lt_succ_self k,rfl⟩
  ·exact trivial
 ·rw[List.mem_singleton]at hy
  subst hy
  exact ⟨Nat.lt_succ_self k,fun _=>rfl,ao hp,by rw[au hp,kt];exact hb⟩
theorem Lr {m a e:Nat} {f:Nat→Int} {pc nc kc:List SV} (h:iy pc nc kc) (hf:eJ f) (hm:m≤8192) (ha:a < e) (he:e≤m):
  bd Tryz.prog 79 [Ag (fP 0 1 2 3),I .i64 a,I .i64 e] 6 (lk (kU m f pc nc kc)) (Sz 6 f a e):=by
 refine cy Tryz.func79 rfl (by kernel_rfl) [] [] (by simp[Tryz.ntmps79]) Tryz.tU (fun v hv=>by
  simp only[bQ]at hv
  rcases hv with rfl | rfl | rfl
  ·exact dY fun n hn=>by omega
  ·trivial
  ·trivial) lZ (l5 h) ?_
 simp only[Tryz.results79,kU,bH,seval, -List.reduceReplicate]
 refine mg (fb m f (by simp only[ae,vR,seval, -List.reduceReplicate]) (by simp only[ae,vR,seval, -List.reduceReplicate]) (by simp only[ae,vR,seval, -List.reduceReplicate]) (by simp only[ae,vR,seval, -List.reduceReplicate]) (by simp only[ae,vR,seval, -List.reduceReplicate]) (by simp only[ae,vR,seval, -List.reduceReplicate])) h (by omega) (by omega) ?_
 have bS:eJ (aB f a):=fun i=>hf _
 have eS:(fun i=>f (a*64+i))=aB f a:=rfl
 simp only[eS,bH,seval, -List.reduceReplicate]
 refine xS (eD:=true) (N:=64) (h:=aB f a) (by simp only[ae,vR,seval, -List.reduceReplicate]) bS (by decide) (by decide) ?_
 have eQ:p9 (fun i=>aB f a (1+i)) 8=bB (aB f a):=rfl
 have eL:p9 (fun i=>aB f a (9+i)) 4=((aN (aB f a):Nat):Int):=by
  have:=iV (f:=fun i=>aB f a (9+i)) (fun i=>bS _) 4
  unfold aN Cw
  omega
 have hL:aN (aB f a) < 4294967296:=by
  have:=iV (f:=fun i=>aB f a (9+i)) (fun i=>bS _) 4
  unfold aN Cw
  omega
 simp only[eQ,bH,seval, -List.reduceReplicate]
 refine xS (eD:=true) (N:=64) (h:=aB f a) (by simp only[ae,vR,seval, -List.reduceReplicate]) bS (by decide) (by decide) ?_
 simp only[eL,bH,seval, -List.reduceReplicate]
 have abV: ∀ {s:AS},jd f a e=false→m8 6 (Sz 6 f a e) (fy fK false) s:=fun {s} hr=>aJ rfl (.inl ⟨hr,rfl,rfl⟩)
 by_cases h0:bB (aB f a)=0
 ·have e0:(bB (aB f a)==0)=true:=by simpa using h0
  simp only[e0,sn,bH,seval, -List.reduceReplicate]
  exact abV (by simp[jd,h0])
 ·have e0:(bB (aB f a)==0)=false:=by simpa using h0
  have w1:IntKind.u64.wrap (((e:Nat):Int) - ((a:Nat):Int))=((e - a:Nat):Int):=by rw[bT _ (by omega) (by omega)];omega
  have w2:IntKind.i64.wrap (((e:Nat):Int) - ((a:Nat):Int))=((e - a:Nat):Int):=by rw[wrap_i64 _ (by omega) (by omega)];omega
  have w3:IntKind.u64.wrap ((e - a:Nat):Int)=((e - a:Nat):Int):=bT _ (by omega) (by omega)
  simp only[e0,sn,bH,seval, -List.reduceReplicate]
  refine (AO (n:=aN (aB f a)) (by omega)).av ?_
  by_cases hr:aO (aN (aB f a))≤e - a
  ·have g1:(((e - a:Nat):Int) < ((aO (aN (aB f a)):Nat):Int))=False:=eq_false (by omega)
   have hroom:jd f a e=true:=by simp[jd,h0,hr]
   simp only[w1,w2,w3,g1,decide_false,bH,seval, -List.reduceReplicate]
   refine .inl ?_
   simp only[w1,w2,w3,bH,seval, -List.reduceReplicate]
   refine ⟨by kernel_rfl,(AO (n:=aN (aB f a)) (by omega)).draw Tryz.tv ?_⟩
   have w4:IntKind.i64.wrap ((a:Nat):Int)=((a:Nat):Int):=wrap_i64 _ (by omega) (by omega)
   have w5:IntKind.i64.wrap (((a:Nat):Int)+1)=((a+1:Nat):Int):=by rw[wrap_i64 _ (by omega) (by omega)];omega
   have w6:IntKind.i64.wrap ((aO (aN (aB f a)):Nat):Int)=((aO (aN (aB f a)):Nat):Int):=wrap_i64 _ (by omega) (by omega)
   have w7:IntKind.i64.wrap (((a:Nat):Int)+((aO (aN (aB f a)):Nat):Int))=((a+1+aT (aN (aB f a)):Nat):Int):=by rw[wrap_i64 _ (by omega) (by omega)];unfold aO aT;omega
   have w8:IntKind.i64.wrap ((aN (aB f a):Nat):Int)=((aN (aB f a):Nat):Int):=wrap_i64 _ (by omega) (by omega)
   have hC:a+1+aT (aN (aB f a))≤m:=by unfold aO at hr;unfold aT;omega
   have hCl:aN (aB f a)≤64*aT (aN (aB f a)):=by unfold aT;omega
   simp only[w5,w6,w7,bH,seval, -List.reduceReplicate]
   refine .inr (.inr (.inr ⟨by kernel_rfl, ?_⟩))
   simp only[if_pos (show ak Tryz.prog 58=true from Tryz.oZ)]
   refine wE (lo:=a+1) (n:=aT (aN (aB f a))) (fb m f (by simp only[ae,vR,seval, -List.reduceReplicate]) (by simp only[ae,vR,seval, -List.reduceReplicate]) (by simp only[ae,vR,seval, -List.reduceReplicate]) (by simp only[ae,vR,seval, -List.reduceReplicate]) (by simp only[ae,vR,seval, -List.reduceReplicate]) (by simp only[ae,vR,seval, -List.reduceReplicate])) h (by omega) hC rfl ?_
   have eP:(fun i=>f ((a+1)*64+i))=dP f a:=rfl
   simp only[eP,bH,seval, -List.reduceReplicate]
   refine I1 (eD:=true) (f:=dP f a) (by simp only[ae,vR,seval, -List.reduceReplicate]) (by omega) fun c' cs' hg=> ?_
   have g2:(((aN (aB f a):Nat):Int)≤(c':Int))=True:=eq_true (by have:=hg.room;omega)
   simp only[w8,g2,IA,IB,sn,bH,seval, -List.reduceReplicate]
   refine .inl ?_
   simp only[bH,seval, -List.reduceReplicate]
   have QK:cS 44 (.inr (.inr (44,0,aN (aB f a),c'))) (aN (aB f a)) (dP f a) cs':= .inr ⟨0,c',rfl,by have:=hg.room;omega,fun i hi=>hg.shows i (by omega)⟩
   have hs: ∀ M:Nat→Prop,SV.ok M (.inr (.inr (44,0,aN (aB f a),c')))→M 44:=fun M hM=>hM.1
   have bP:eJ (dP f a):=fun i=>hf _
   refine ⟨by kernel_rfl,I2 (r0:=true) (cs:=cs') (f:=dP f a) (t:=44) (by simp only[ae,vR,seval, -List.reduceReplicate]) QK hs hg.plain bP (by omega) ?_⟩
   simp only[bH,seval, -List.reduceReplicate]
   have fin: ∀ {s:AS} {b:Bool},b=gP f a→s.box 44=some ⟨true,cs'⟩→m8 6 (Sz 6 f a e) (fy (bJ (bB (aB f a)) (.inr (.inr (44,0,aN (aB f a),c')))) b) s:=fun {s b} hb h44=>by
    subst hb
    exact VT (by decide) h44 hg.plain (.inr ⟨hroom,c',cs',fun i hi=>hg.shows i (by omega),by have:=hg.room;omega,hg.plain,rfl,rfl⟩)
   by_cases hE:pN 64 (lC (bB (aB f a)) (aN (aB f a)) (dP f a)) (aB f a)=true
   ·simp only[NZ,hE,bH,seval, -List.reduceReplicate]
    refine PT (r0:=true) (cs:=cs') (f:=dP f a) (t:=44) (by simp only[ae,vR,seval, -List.reduceReplicate]) QK hs hg.plain (by omega) ?_
    simp only[bH,seval, -List.reduceReplicate]
    refine Lq (r0:=true) (r1:=true) (f:=iL (aN (aB f a)) (dP f a)) (g:=dP f a) (by simp only[ae,vR,seval, -List.reduceReplicate]) (by simp only[ae,vR,seval, -List.reduceReplicate]) (by omega) ?_
    simp only[sn,bH,seval, -List.reduceReplicate]
    exact fin (by simp[gP,hE]) (by simp only[ae,vR,seval, -List.reduceReplicate])
   ·have N0:pN 64 (lC (bB (aB f a)) (aN (aB f a)) (dP f a)) (aB f a)=false:=by simpa using hE
    simp only[NZ,N0,sn,bH,seval, -List.reduceReplicate]
    exact fin (by simp[gP,N0]) (by simp only[ae,vR,seval, -List.reduceReplicate])
  ·have g1:(((e - a:Nat):Int) < ((aO (aN (aB f a)):Nat):Int))=True:=eq_true (by omega)
   simp only[w1,w2,w3,g1,decide_true,sn,bH,seval, -List.reduceReplicate]
   exact abV (by simp[jd,hr])
theorem kL {s:AS} {r:Nat→Nat} {k nm:Nat}:after s r k nm none (fun _=>none)=s.box:=by
 funext t
 unfold after
 by_cases h:t=nm
 ·simp[h]
 ·simp[h]
theorem jv {s:AS} {nm m a e:Nat} {f:Nat→Int} {pc nc kc:List SV} (hd:pb s (kU m f pc nc kc)) (h:iy pc nc kc) (hf:eJ f) (hm:m≤8192) (ha:a < e) (he:e≤m) {x y:Int} (hx:x=(a:Int)) (hy:y=(e:Int)) {dst:Option Nat} {K:AS→Prop}
  (h0:jd f a e=false→K (s.put dst (some (fy fK false))))
  (h1:jd f a e=true→ ∀ c cs,aY cs 0 (aN (aB f a)) (dP f a)→aN (aB f a)≤c→cs.all SV.plain=true→K (({ s with box:=upd s.box nm (some ⟨true,cs⟩) }:AS).put dst (some (fy (bJ (bB (aB f a)) (.inr (.inr (nm,0,aN (aB f a),c)))) (gP f a))))):
  av Tryz.prog nm 79 (some [Ag (fP 0 1 2 3),I .i64 x,I .i64 y]) dst K s:=by
 subst hx
 subst hy
 refine (Lr h hf hm ha he).av (fun n=>n) none (hd.fits kJ) (fC _) ?_
 rintro v out (⟨hr,rfl,rfl⟩ | ⟨hr,c,cs,g1,g2,g3,rfl,rfl⟩) _
 ·rw[kL,AV.dG (show AV.plain (fy fK false)=true from rfl)]
  exact h0 hr
 ·rw[bX g3]
  have e2:AV.ren (df (fun n=>n) 6 nm) (fy (bJ (bB (aB f a)) (.inr (.inr (6,0,aN (aB f a),c)))) (gP f a))=fy (bJ (bB (aB f a)) (.inr (.inr (nm,0,aN (aB f a),c)))) (gP f a):=by
   simp only[fy,bJ,AV.ren,CV.ren,List.map_cons,List.map_nil,SV.ren,fj,gF]
  rw[e2]
  exact h1 hr c cs g1 g2 g3
def aE (f:Nat→Int) (p:Nat):Nat:=p+aO (aN (aB f p))
def okB (f:Nat→Int) (a e:Nat):Bool:=jd f a e&&gP f a
def pO (f:Nat→Int) (e p:Nat):Bool:=decide (aE f p < e)&&okB f (aE f p) e&&decide (bB (aB f (aE f p))=bB (aB f p)+1)
def walk (f:Nat→Int) (e:Nat):Nat→Nat→Nat
 | 0,p=>p
 | n+1,p=>if pO f e p=true then walk f e n (aE f p) else p
def aC (f:Nat→Int) (e p:Nat):Nat:=walk f e (e - p) p
theorem hU {f:Nat→Int} {p:Nat}:p < aE f p:=by unfold aE aO;omega
theorem Ec {f:Nat→Int} {e:Nat}: ∀ (n k p:Nat),e - p≤n→walk f e (n+k) p=walk f e n p
 | 0,0,p,h=>rfl
 | 0,k+1,p,h=>by
  have:pO f e p=false:=by
   have:=hU (f:=f) (p:=p)
   unfold pO
   rw[decide_eq_false (by omega)]
   rfl
  rw[Nat.zero_add]
  simp[walk,this]
 | n+1,k,p,h=>by
  rw[Nat.add_right_comm]
  simp only[walk]
  split
  ·exact Ec n k _ (by have:=hU (f:=f) (p:=p);omega)
  ·rfl
theorem Bb {f:Nat→Int} {e p:Nat} (h:pO f e p=true):aC f e p=aC f e (aE f p):=by
 have h1:aE f p < e:=by
  unfold pO at h
  simp only[Bool.and_eq_true,decide_eq_true_eq]at h
  exact h.1.1
 have h2:=hU (f:=f) (p:=p)
 obtain ⟨n,hn⟩: ∃ n,e - p=n+1:=⟨e - p - 1,by omega⟩
 obtain ⟨k,hk⟩: ∃ k,n=(e - aE f p)+k:=⟨n - (e - aE f p),by omega⟩
 unfold aC
 rw[hn]
 simp only[walk,h,if_true]
 rw[hk,Ec _ _ _ (Nat.le_refl _)]
theorem gg {f:Nat→Int} {e p:Nat} (h:pO f e p=false):aC f e p=p:=by
 unfold aC
 cases e - p with
 | zero=>rfl
 | succ n=>simp[walk,h]
def cr (f:Nat→Int) (st p:Nat) (sv:SV):List SV:=bA st (aE f p) (bB (aB f p)) sv
def abW (k:Nat) (f:Nat→Int) (e st:Nat) (sv:SV) (v:AV) (out:Nat→Option aI):Prop:=
 (aC f e st=st∧v=Ag (cr f st st sv)∧out=fun _=>none)∨
 (∃ c cs,aY cs 0 (aN (aB f (aC f e st))) (dP f (aC f e st))∧aN (aB f (aC f e st))≤c∧cs.all SV.plain=true∧v=Ag (cr f st (aC f e st) (.inr (.inr (k,0,aN (aB f (aC f e st)),c))))∧out=lk [(k,⟨true,cs⟩)])
def SA (m:Nat) (f:Nat→Int) (pc nc kc ps:List SV):List (Nat×aI):=[(0,⟨false,[Sum.inr (.inr (4,0,m,m))]⟩),(1,⟨false,pc⟩),(2,⟨false,[Sum.inl (.slice none 0 0)]⟩),(3,⟨false,nc⟩),(4,⟨false,ai .u8 (64*m) f⟩),(5,⟨false,kc⟩),(6,⟨false,ps⟩)]
theorem N1 {m:Nat} {f:Nat→Int} {pc nc kc ps:List SV}: ∀ n,n < 7→ ∃ c,lk (SA m f pc nc kc ps) n=some c:=fun n hn=>by
 rcases (show n=0∨n=1∨n=2∨n=3∨n=4∨n=5∨n=6 by omega) with rfl | rfl | rfl | rfl | rfl | rfl | rfl<;>exact ⟨_,rfl⟩
theorem N2 {m:Nat} {f:Nat→Int} {pc nc kc ps:List SV} (h:iy pc nc kc) (hs:ps.all SV.plain=true): ∀ n c,lk (SA m f pc nc kc ps) n=some c→n < 7∧ ∀ x ∈ c.cells,SV.ok (fun n=>n < 7) x:=fun n c hn=>by
 have h1:=bt _ _ _ hn
 simp only[SA,bQ,Prod.mk.injEq]at h1
 rcases h1 with ⟨rfl,rfl⟩ | ⟨rfl,rfl⟩ | ⟨rfl,rfl⟩ | ⟨rfl,rfl⟩ | ⟨rfl,rfl⟩ | ⟨rfl,rfl⟩ | ⟨rfl,rfl⟩
 ·exact ⟨by decide,fun x hx=>by rw[List.mem_singleton]at hx;subst hx;exact ⟨(by decide:4 < 7),rfl⟩⟩
 ·exact ⟨by decide,fun x hx=>SV.aL (fun n hn=>by subst hn;decide) (h.p x hx)⟩
 ·exact ⟨by decide,ao rfl⟩
 ·exact ⟨by decide,ao h.n⟩
 ·exact ⟨by decide,ao az⟩
 ·exact ⟨by decide,ao h.k⟩
 ·exact ⟨by decide,ao hs⟩
theorem lG {s:AS} {nm m:Nat} {f:Nat→Int} {pc nc kc:List SV} (hd:pb s (kU m f pc nc kc)) (h:iy pc nc kc) (hm:m≤1048576) {dst:Option Nat} {K:AS→Prop} (hk:K (s.put dst (some (I .i64 (m / 2:Nat))))):av Tryz.prog nm 31 (some [Ag (fP 0 1 2 3)]) dst K s:=
 (pd (f:=f) h hm).cG (fun n=>n) (hd.fits kJ) rfl (fC _) hk
section
variable {a b c d x y z w:SV}
theorem Xc:splice [a,b,c,d] 0 [x]=[x,b,c,d]:=rfl
theorem Xd:splice [a,b,c,d] 1 [x]=[a,x,c,d]:=rfl
theorem Xe:splice [a,b,c,d] 2 [x,y]=[a,b,x,y]:=rfl
theorem Xf:splice [a,b,c,d] 0 [x,y,z,w]=[x,y,z,w]:=rfl
end
theorem aA:type_of% @Xc∧type_of% @Xd∧type_of% @Xe∧type_of% @Xf∧type_of% @IA∧type_of% @IB∧type_of% @sn:=
 ⟨@Xc, @Xd, @Xe, @Xf, @IA, @IB, @sn⟩
theorem Fx {s:AS} {nm t n:Nat} {r0:Bool} {cs:List SV} {f:Nat→Int} {q:Int} {sv:SV} (hb:s.box t=some ⟨r0,cs⟩) (hl:cS t sv n f cs) (hs: ∀ M:Nat→Prop,SV.ok M sv→M t) (hp:cs.all SV.plain=true) (hn:n < 9223372036854775000) {ops:Array Oper} {i:Nat} {dst:Option Nat} {K:AS→Prop}
  (hk:K (s.put dst (some (I .i64 (aO n))))):km Tryz.prog ops i nm 24 (some [Ag (bJ q sv)]) dst K s:=by
 obtain ⟨s0,h0,h1⟩:=hl.iW 0
 refine (wu (eD:=false) (q:=q) h0 hp hn).eV (fun _=>t) (bZ hb hp) rfl ?_ (fun M hM n hn=>hs M ((hM (Ag (bJ q sv)) (List.mem_singleton.2 rfl): ∀ x ∈ bJ q sv,SV.ok M x) sv (by simp[bJ]))) hk
 simp only[List.map_cons,List.map_nil,j8,h1 (fun _=>t) rfl]
theorem yA {s:AS} {k q st p n c:Nat} {f:Nat→Int} {cs:List SV} {Post:AV→(Nat→Option aI)→Prop} (hq:k≤q) (hb:s.box q=some ⟨true,cs⟩) (hp:cs.all SV.plain=true)
  (h:Post (Ag (cr f st p (.inr (.inr (k,0,n,c))))) (lk [(k,⟨true,cs⟩)])):m8 k Post (Ag (cr f st p (.inr (.inr (q,0,n,c))))) s:=by
 refine dV (q:=q) (v0:=Ag (cr f st p (.inr (.inr (k,0,n,c))))) hq ?_ (gB ⟨Nat.lt_succ_self k,rfl⟩) (fun y hy=> ?_) h
 ·unfold cr
  rw[l9]
  simp only[SV.ren,fj,kt]
 ·rw[List.mem_singleton]at hy
  subst hy
  exact ⟨Nat.lt_succ_self k,fun _=>rfl,ao hp,by rw[au hp,kt];exact hb⟩
def Fy:dc:=
 let e0:dc:=(.cons 9 .nil .nil)
 let e1:dc:=(.cons 8 e0 .nil)
 let e2:dc:=(.cons 7 e1 .nil)
 let e3:dc:=(.cons 6 e2 .nil)
 let e4:dc:=(.cons 5 e1 .nil)
 let e5:dc:=(.cons 5 e2 (.cons 7 e4 .nil))
 let e6:dc:=(.cons 5 e3 (.cons 6 e5 .nil))
 let e7:dc:=(.cons 4 e3 .nil)
 let e8:dc:=(.cons 4 e6 (.cons 5 e7 .nil))
 let e9:dc:=(.cons 3 e7 .nil)
 let yB:dc:=(.cons 3 e8 (.cons 5 e9 .nil))
 let Cb:dc:=(.cons 2 e9 .nil)
 let Cc:dc:=(.cons 2 yB (.cons 5 Cb .nil))
 let e13:dc:=(.cons 1 e7 .nil)
 let Bc:dc:=(.cons 1 e8 (.cons 5 e13 .nil))
 let yC:dc:=(.cons 1 e9 (.cons 3 e13 .nil))
 let Cd:dc:=(.cons 1 yB (.cons 3 Bc (.cons 5 yC .nil)))
 let Cx:dc:=(.cons 1 Cb (.cons 2 yC .nil))
 let Fz:dc:=(.cons 1 Cc (.cons 2 Cd (.cons 5 Cx .nil)))
 let FA:dc:=(.cons 0 e13 .nil)
 let I3:dc:=(.cons 0 Bc (.cons 5 FA .nil))
 let e21:dc:=(.cons 0 yC (.cons 3 FA .nil))
 let e22:dc:=(.cons 0 Cd (.cons 3 I3 (.cons 5 e21 .nil)))
 let e23:dc:=(.cons 0 Cx (.cons 2 e21 .nil))
 let e24:dc:=(.cons 0 Fz (.cons 2 e22 (.cons 5 e23 .nil)))
 e24
def Bd (e:Nat):List (Nat×AV):=[(3,Ptr 7 0),(6,Ptr 9 0),(7,Ptr 17 0),(8,I .i64 e)]
def Bf (m:Nat) (f:Nat→Int) (pc nc kc ps:List SV) (l:List SV):List (Nat×aI):=[(0,⟨false,[Sum.inr (.inr (4,0,m,m))]⟩),(1,⟨false,pc⟩),(2,⟨false,[Sum.inl (.slice none 0 0)]⟩),(3,⟨false,nc⟩),(4,⟨false,ai .u8 (64*m) f⟩),(5,⟨false,kc⟩),(6,⟨false,ps⟩),(7,⟨true,fP 0 1 2 3⟩),(9,⟨true,[Sum.inl (.int .i64 0),Sum.inl (.int .i64 0),Sum.inl (.int .u64 0),Sum.inl (.slice none 0 0)]⟩),(17,⟨true,l⟩)]
theorem I4 {s:AS} {m st p q n c e:Nat} {f:Nat→Int} {pc nc kc ps cs:List SV} (hq:61≤q) (hd:iy pc nc kc) (hps:ps.all SV.plain=true) (hcs:cs.all SV.plain=true) (he: ∀ x ∈ Bd e,s.env x.1=some x.2) (hb: ∀ x ∈ Bf m f pc nc kc ps (cr f st p (.inr (.inr (q,0,n,c)))),s.box x.1=some x.2) (hc:s.box q=some ⟨true,cs⟩):
  ll 24 s (pF (Bd e) ((60,⟨true,cs⟩)::Bf m f pc nc kc ps (cr f st p (.inr (.inr (60,0,n,c))))) 61):=by
 have r60:upd (fun n=>n) 60 q 60=q:=by simp[upd]
 refine Lp (by decide) hq (fun x hx=> ?_) (fun x hx=> ?_) hcs (fun x hx=> ?_) (fun x hx=> ?_) hc
 ·have h1:=he x hx
  simp only[Bd,bQ]at hx
  rcases hx with rfl | rfl | rfl | rfl<;>exact h1
 ·simp only[Bd,bQ]at hx
  rcases hx with rfl | rfl | rfl | rfl
  ·exact (by decide:7 < 61)
  ·exact (by decide:9 < 61)
  ·exact (by decide:17 < 61)
  ·trivial
 ·simp only[Bf,bQ,forall_eq_or_imp,forall_eq]at hb hx
  obtain ⟨g0,g1,g2,g3,g4,g5,g6,g7,g9,g17⟩:=hb
  rcases hx with rfl | rfl | rfl | rfl | rfl | rfl | rfl | rfl | rfl | rfl
  ·exact ⟨false,g0,fun h=>h⟩
  ·exact ⟨false,by rw[qH fun x hx=>SV.aL (fun n hn=>by omega) (hd.p x hx)];exact g1,fun h=>h⟩
  ·exact ⟨false,g2,fun h=>h⟩
  ·exact ⟨false,by rw[au hd.n];exact g3,fun h=>h⟩
  ·exact ⟨false,by rw[au az];exact g4,fun h=>h⟩
  ·exact ⟨false,by rw[au hd.k];exact g5,fun h=>h⟩
  ·exact ⟨false,by rw[au hps];exact g6,fun h=>h⟩
  ·exact ⟨true,by rw[qH (dY fun n hn=>by omega)];exact g7,fun h=>h⟩
  ·exact ⟨true,g9,fun h=>h⟩
  ·refine ⟨true,g17.trans ?_,fun h=>h⟩
   simp only[cr,bA,List.map_cons,List.map_nil,SV.ren,fj,r60]
 ·simp only[Bf,bQ]at hx
  rcases hx with rfl | rfl | rfl | rfl | rfl | rfl | rfl | rfl | rfl | rfl
  ·exact ⟨(by decide:0 < 60),fun y hy=>by rw[List.mem_singleton]at hy;subst hy;exact ⟨(by decide:4 < 61),rfl⟩⟩
  ·exact ⟨(by decide:1 < 60),fun x hx=>SV.aL (fun n hn=>by omega) (hd.p x hx)⟩
  ·exact ⟨(by decide:2 < 60),ao rfl⟩
  ·exact ⟨(by decide:3 < 60),ao hd.n⟩
  ·exact ⟨(by decide:4 < 60),ao az⟩
  ·exact ⟨(by decide:5 < 60),ao hd.k⟩
  ·exact ⟨(by decide:6 < 60),ao hps⟩
  ·exact ⟨(by decide:7 < 60),dY fun n hn=>by omega⟩
  ·exact ⟨(by decide:9 < 60),ao rfl⟩
  ·exact ⟨(by decide:17 < 60),gB ⟨(by decide:60 < 61),rfl⟩⟩
theorem Ls {m st:Nat} {f pf:Nat→Int} {sv:SV} {pc nc kc ps:List SV} (h:iy pc nc kc) (hf:eJ f) (hm:m≤8192) (he:st+m / 2≤m) (hr:okB f st (st+m / 2)=true) (hl:cS 6 sv (aN (aB f st)) pf ps) (hs6: ∀ M:Nat→Prop,SV.ok M sv→M 6) (hp:ps.all SV.plain=true):
  bd Tryz.prog 80 [Ag (fP 0 1 2 3),I .i64 st,Ag (bJ (bB (aB f st)) sv)] 7 (lk (SA m f pc nc kc ps)) (abW 7 f (st+m / 2) st sv):=by
 refine cy Tryz.func80 rfl (by kernel_rfl) [6] [] (by simp[Tryz.ntmps80]) Tryz.tV (fun v hv=>by
  simp only[bQ]at hv
  rcases hv with rfl | rfl | rfl
  ·exact dY fun n hn=>by omega
  ·trivial
  ·exact lW (hl.ok (by decide))) N1 (N2 h hp) ?_
 have hok: ∀ {M:Nat→Prop},M 6→SV.ok M sv:=fun h=>hl.ok h
 have hone:=(hl.ok (M:=fun n=>n < 7) (by decide)).2
 simp only[Tryz.results80,SA,bJ,bH,seval]
 have Vp:aN (aB f st) < 4294967296:=by
  have:=iV (f:=fun i=>aB f st (9+i)) (fun i=>hf _) 4
  unfold aN Cw
  omega
 refine .inl ?_
 simp only[bH,seval]
 refine ⟨by kernel_rfl, ?_⟩
 refine Fx (t:=6) (r0:=false) (cs:=ps) (f:=pf) (by simp only[ae,vR,seval]) hl hs6 hp (by omega) ?_
 have hn0:aE f st≤st+m / 2:=by
  have:=hr
  unfold okB jd at this
  simp only[Bool.and_eq_true,decide_eq_true_eq]at this
  unfold aE
  omega
 have w1:IntKind.i64.wrap ((st:Int)+((aO (aN (aB f st)):Nat):Int))=((aE f st:Nat):Int):=by
  unfold aE at hn0 ⊢
  rw[wrap_i64 _ (by omega) (by omega)];omega
 have w2:IntKind.i64.wrap ((st:Int)+((m / 2:Nat):Int))=((st+m / 2:Nat):Int):=by rw[wrap_i64 _ (by omega) (by omega)];omega
 simp only[AX hone,aA,w1,bH,seval]
 refine lG (fb m f (by simp only[ae,vR,seval]) (by simp only[ae,vR,seval]) (by simp only[ae,vR,seval]) (by simp only[ae,vR,seval]) (by simp only[ae,vR,seval]) (by simp only[ae,vR,seval])) h (by omega) ?_
 simp only[w2,aA,bH,seval]
 have okp: ∀ {M:Nat→Prop},M 5→ ∀ x ∈ pc,SV.ok M x:=fun h5 x hx=>SV.aL (fun n hn=>by subst hn;exact h5) (h.p x hx)
 refine mQ (m / 2) (fun k t=> ∃ p,st+k≤p∧okB f p (st+m / 2)=true∧aC f (st+m / 2) p=aC f (st+m / 2) st∧
  ((p=st∧t=pF (Bd (st+m / 2)) (Bf m f pc nc kc ps (cr f st p sv)) 61)∨
   (∃ c cs,aY cs 0 (aN (aB f p)) (dP f p)∧aN (aB f p)≤c∧cs.all SV.plain=true∧t=pF (Bd (st+m / 2)) ((60,⟨true,cs⟩)::Bf m f pc nc kc ps (cr f st p (.inr (.inr (60,0,aN (aB f p),c))))) 61))) ?_ ?_ ?_ ?_
 ·rintro k t ⟨p,_,_,_,⟨_,rfl⟩ | ⟨_,_,_,_,_,rfl⟩⟩<;>(show (24:Nat)≤61;decide)
 ·refine ⟨_,⟨st,Nat.le_refl _,hr,rfl, .inl ⟨rfl,rfl⟩⟩,ev.qa ?_⟩
  simp only[Bd,Bf,cr,bA,aA,bH,seval]
  exact ⟨⟨(by decide:4 < 61),rfl⟩,okp (by decide),⟨trivial,rfl⟩,ao h.n,ao h.k,ao hp,dY fun n hn=>by omega,⟨trivial,rfl⟩,hok (by decide)⟩
 ·rintro k t hk ⟨p,hpk,ZD,ZE,hI⟩
  have Gc:aE f p≤st+m / 2:=by
   have:=ZD
   unfold okB jd at this
   simp only[Bool.and_eq_true,decide_eq_true_eq]at this
   have h4:=this.1.2
   unfold aE
   unfold aO at h4 ⊢
   omega
  have B6:=hU (f:=f) (p:=p)
  have hsq:jd f (aE f p) (st+m / 2)=true→(bB (aB f (aE f p)) != IntKind.u64.wrap (bB (aB f p)+1))= !decide (bB (aB f (aE f p))=bB (aB f p)+1):=fun hr1=>by
   have b1:=iV (f:=fun i=>aB f (aE f p) (1+i)) (fun i=>hf _) 8
   have b2:=iV (f:=fun i=>aB f p (1+i)) (fun i=>hf _) 8
   have b3:bB (aB f (aE f p))≠0:=fun h0=>by simp[jd,h0]at hr1
   change 0≤bB _∧bB _ < _ at b1
   change 0≤bB _∧bB _ < _ at b2
   rw[show (256:Int)^8=18446744073709551616 by decide]at b1 b2
   by_cases h1:bB (aB f p)+1 < 18446744073709551616
   ·rw[bT _ (by omega) (by omega)]
    rfl
   ·have h2:bB (aB f p)+1=18446744073709551616:=by omega
    rw[h2,show IntKind.u64.wrap 18446744073709551616=0 by decide]
    rw[decide_eq_false (by omega)]
    simpa using b3
  rcases hI with ⟨hps,rfl⟩ | ⟨c,cs,g1,g2,g3,rfl⟩
  ·skip
   by_cases hlt:aE f p < st+m / 2
   ·have d1:(((aE f p:Nat):Int) < ((st+m / 2:Nat):Int))=True:=eq_true (by omega)
    simp only[d1,decide_true,Bd,Bf,cr,bA,fy,bJ,fK,Bool.not_true,Bool.not_false,aA,bH,seval]
    refine jv (a:=aE f p) (e:=st+m / 2) (fb m f (by simp only[ae,vR,seval]) (by simp only[ae,vR,seval]) (by simp only[ae,vR,seval]) (by simp only[ae,vR,seval]) (by simp only[ae,vR,seval]) (by simp only[ae,vR,seval])) h hf hm hlt he rfl rfl (fun hr0=> ?_) fun hr1 c' cs' k1 k2 k3=> ?_
    ·have ob:pO f (st+m / 2) p=false:=by simp[pO,okB,hr0]
     simp only[Bd,Bf,cr,bA,fy,bJ,fK,Bool.not_true,Bool.not_false,aF,aA,bH,seval]
     exact qI (gB (hok (by decide))) (.inl ⟨by rw[hps]at ob;exact gg ob,by rw[hps];rfl,rfl⟩)
    ·simp only[Bd,Bf,cr,bA,fy,bJ,fK,Bool.not_true,Bool.not_false,aF,aA,bH,seval]
     by_cases QA:gP f (aE f p)=true
     ·by_cases hq:bB (aB f (aE f p))=bB (aB f p)+1
      ·have e1:=(hsq hr1).trans (congrArg not (decide_eq_true hq))
       simp only[e1,QA,Bool.not_true,Bool.not_false,Bd,Bf,cr,bA,fy,bJ,fK,aF,aA,bH,seval]
       refine lq (by kernel_rfl) [] [] [] [0,1,2,3,4,5,6,7,8,9] [] [] [45,46,47,48,49,50,51,52] Fy (by kernel_rfl) (by kernel_rfl) (by kernel_rfl) (by kernel_rfl) (fun t ht=>(by cases ht)) ?_
       have fw:okB f (aE f p) (st+m / 2)=true:=by simp[okB,hr1,QA]
       have ob:pO f (st+m / 2) p=true:=by simp[pO,hlt,fw,hq]
       have hn2:aE f (aE f p)≤st+m / 2:=by
        have:=hr1
        unfold jd at this
        simp only[Bool.and_eq_true,decide_eq_true_eq]at this
        have h4:=this.2
        unfold aE at*
        omega
       have w3:IntKind.i64.wrap (((aE f p:Nat):Int)+((aO (aN (aB f (aE f p))):Nat):Int))=((aE f (aE f p):Nat):Int):=by
        have e:aE f (aE f p)=aE f p+aO (aN (aB f (aE f p))):=rfl
        rw[e]at hn2 ⊢
        rw[wrap_i64 _ (by omega) (by omega)];omega
       have QK:cS 69 (.inr (.inr (69,0,aN (aB f (aE f p)),c'))) (aN (aB f (aE f p))) (dP f (aE f p)) cs':= .inr ⟨0,c',rfl,k2,k1⟩
       have J4:aN (aB f (aE f p)) < 4294967296:=by
        have:=iV (f:=fun i=>aB f (aE f p) (9+i)) (fun i=>hf _) 4
        unfold aN Cw
        omega
       simp only[Fy,jg,aA,bH,seval]
       repeat' (refine And.intro ?_ ?_)
       all_goals
        refine lX (t:=69) (eD:=true) (cs:=cs') (f:=dP f (aE f p)) ?_ QK k3 (by omega) ?_
       all_goals
        first | (simp only[jg,ae,vR,seval];done) | skip
       all_goals
        simp only[w3,jg,aA,bH,seval]
       repeat' (refine And.intro ?_ ?_)
       all_goals
        refine ⟨_,⟨aE f p,by omega,fw,(Bb ob).symm.trans ZE, .inr ⟨c',cs',k1,k2,k3,rfl⟩⟩,I4 (q:=69) (by decide) h hp k3 ?_ ?_ ?_⟩
       all_goals
        simp only[Bd,Bf,cr,bA,bJ,jg,aA,bH,seval]
      ·have e1:=(hsq hr1).trans (congrArg not (decide_eq_false hq))
       have ob:pO f (st+m / 2) p=false:=by simp[pO,hq]
       simp only[e1,QA,Bool.not_true,Bool.not_false,Bd,Bf,cr,bA,fy,bJ,fK,aF,aA,bH,seval]
       exact qI (gB (hok (by decide))) (.inl ⟨by rw[hps]at ob;exact gg ob,by rw[hps];rfl,rfl⟩)
     ·have SB:gP f (aE f p)=false:=by simpa using QA
      have ob:pO f (st+m / 2) p=false:=by simp[pO,okB,SB]
      simp only[SB,Bool.not_true,Bool.not_false,Bd,Bf,cr,bA,fy,bJ,fK,aF,aA,bH,seval]
      exact qI (gB (hok (by decide))) (.inl ⟨by rw[hps]at ob;exact gg ob,by rw[hps];rfl,rfl⟩)
   ·have d1:(((aE f p:Nat):Int) < ((st+m / 2:Nat):Int))=False:=eq_false (by omega)
    have ob:pO f (st+m / 2) p=false:=by simp[pO,hlt]
    simp only[d1,decide_false,Bd,Bf,cr,bA,fy,bJ,fK,Bool.not_true,Bool.not_false,aA,bH,seval]
    exact qI (gB (hok (by decide))) (.inl ⟨by rw[hps]at ob;exact gg ob,by rw[hps];rfl,rfl⟩)
  ·skip
   by_cases hlt:aE f p < st+m / 2
   ·have d1:(((aE f p:Nat):Int) < ((st+m / 2:Nat):Int))=True:=eq_true (by omega)
    simp only[d1,decide_true,Bd,Bf,cr,bA,fy,bJ,fK,Bool.not_true,Bool.not_false,aA,bH,seval]
    refine jv (a:=aE f p) (e:=st+m / 2) (fb m f (by simp only[ae,vR,seval]) (by simp only[ae,vR,seval]) (by simp only[ae,vR,seval]) (by simp only[ae,vR,seval]) (by simp only[ae,vR,seval]) (by simp only[ae,vR,seval])) h hf hm hlt he rfl rfl (fun hr0=> ?_) fun hr1 c' cs' k1 k2 k3=> ?_
    ·have ob:pO f (st+m / 2) p=false:=by simp[pO,okB,hr0]
     simp only[Bd,Bf,cr,bA,fy,bJ,fK,Bool.not_true,Bool.not_false,aF,aA,bH,seval]
     exact yA (by decide) (by simp only[ae,vR,seval]) g3 (.inr ⟨c,cs,by rw[← ZE,gg ob];exact ⟨g1,g2,g3,rfl,rfl⟩⟩)
    ·simp only[Bd,Bf,cr,bA,fy,bJ,fK,Bool.not_true,Bool.not_false,aF,aA,bH,seval]
     by_cases QA:gP f (aE f p)=true
     ·by_cases hq:bB (aB f (aE f p))=bB (aB f p)+1
      ·have e1:=(hsq hr1).trans (congrArg not (decide_eq_true hq))
       simp only[e1,QA,Bool.not_true,Bool.not_false,Bd,Bf,cr,bA,fy,bJ,fK,aF,aA,bH,seval]
       refine lq (by kernel_rfl) [] [] [] [0,1,2,3,4,5,6,7,8,9] [] [] [45,46,47,48,49,50,51,52] Fy (by kernel_rfl) (by kernel_rfl) (by kernel_rfl) (by kernel_rfl) (fun t ht=>(by cases ht)) ?_
       have fw:okB f (aE f p) (st+m / 2)=true:=by simp[okB,hr1,QA]
       have ob:pO f (st+m / 2) p=true:=by simp[pO,hlt,fw,hq]
       have hn2:aE f (aE f p)≤st+m / 2:=by
        have:=hr1
        unfold jd at this
        simp only[Bool.and_eq_true,decide_eq_true_eq]at this
        have h4:=this.2
        unfold aE at*
        omega
       have w3:IntKind.i64.wrap (((aE f p:Nat):Int)+((aO (aN (aB f (aE f p))):Nat):Int))=((aE f (aE f p):Nat):Int):=by
        have e:aE f (aE f p)=aE f p+aO (aN (aB f (aE f p))):=rfl
        rw[e]at hn2 ⊢
        rw[wrap_i64 _ (by omega) (by omega)];omega
       have QK:cS 69 (.inr (.inr (69,0,aN (aB f (aE f p)),c'))) (aN (aB f (aE f p))) (dP f (aE f p)) cs':= .inr ⟨0,c',rfl,k2,k1⟩
       have J4:aN (aB f (aE f p)) < 4294967296:=by
        have:=iV (f:=fun i=>aB f (aE f p) (9+i)) (fun i=>hf _) 4
        unfold aN Cw
        omega
       simp only[Fy,jg,aA,bH,seval]
       repeat' (refine And.intro ?_ ?_)
       all_goals
        refine lX (t:=69) (eD:=true) (cs:=cs') (f:=dP f (aE f p)) ?_ QK k3 (by omega) ?_
       all_goals
        first | (simp only[jg,ae,vR,seval];done) | skip
       all_goals
        simp only[w3,jg,aA,bH,seval]
       repeat' (refine And.intro ?_ ?_)
       all_goals
        refine ⟨_,⟨aE f p,by omega,fw,(Bb ob).symm.trans ZE, .inr ⟨c',cs',k1,k2,k3,rfl⟩⟩,I4 (q:=69) (by decide) h hp k3 ?_ ?_ ?_⟩
       all_goals
        simp only[Bd,Bf,cr,bA,bJ,jg,aA,bH,seval]
      ·have e1:=(hsq hr1).trans (congrArg not (decide_eq_false hq))
       have ob:pO f (st+m / 2) p=false:=by simp[pO,hq]
       simp only[e1,QA,Bool.not_true,Bool.not_false,Bd,Bf,cr,bA,fy,bJ,fK,aF,aA,bH,seval]
       exact yA (by decide) (by simp only[ae,vR,seval]) g3 (.inr ⟨c,cs,by rw[← ZE,gg ob];exact ⟨g1,g2,g3,rfl,rfl⟩⟩)
     ·have SB:gP f (aE f p)=false:=by simpa using QA
      have ob:pO f (st+m / 2) p=false:=by simp[pO,okB,SB]
      simp only[SB,Bool.not_true,Bool.not_false,Bd,Bf,cr,bA,fy,bJ,fK,aF,aA,bH,seval]
      exact yA (by decide) (by simp only[ae,vR,seval]) g3 (.inr ⟨c,cs,by rw[← ZE,gg ob];exact ⟨g1,g2,g3,rfl,rfl⟩⟩)
   ·have d1:(((aE f p:Nat):Int) < ((st+m / 2:Nat):Int))=False:=eq_false (by omega)
    have ob:pO f (st+m / 2) p=false:=by simp[pO,hlt]
    simp only[d1,decide_false,Bd,Bf,cr,bA,fy,bJ,fK,Bool.not_true,Bool.not_false,aA,bH,seval]
    exact yA (by decide) (by simp only[ae,vR,seval]) g3 (.inr ⟨c,cs,by rw[← ZE,gg ob];exact ⟨g1,g2,g3,rfl,rfl⟩⟩)
 ·rintro t ⟨p,hpk,ZD,ZE,hI⟩
  exfalso
  have:=ZD
  unfold okB jd at this
  simp only[Bool.and_eq_true,decide_eq_true_eq]at this
  have h4:=this.1.2
  unfold aO at h4
  omega
theorem ZF {m:Nat} {f:Nat→Int} {pc nc kc ps:List SV}: ∀ x ∈ SA m f pc nc kc ps,x.2.rw=false:=fun x hx=>by
 simp only[SA,bQ]at hx
 rcases hx with rfl | rfl | rfl | rfl | rfl | rfl | rfl<;>rfl
theorem Bg {s:AS} {m t:Nat} {f:Nat→Int} {pc nc kc ps:List SV} {eD:Bool} (hd:pb s (kU m f pc nc kc)) (h:iy pc nc kc) (hb:s.box t=some ⟨eD,ps⟩) (hp:ps.all SV.plain=true):Fits s (six t) (lk (SA m f pc nc kc ps)) none:=
 qE fun x hx=>⟨ZF x hx,by
  have g:=fun y hy=>hd y hy
  simp only[kU,bQ,forall_eq_or_imp,forall_eq]at g
  obtain ⟨⟨r0,g0⟩,⟨r1,g1⟩,⟨r2,g2⟩,⟨r3,g3⟩,⟨r4,g4⟩,⟨r5,g5⟩⟩:=g
  simp only[SA,bQ]at hx
  rcases hx with rfl | rfl | rfl | rfl | rfl | rfl | rfl
  ·exact ⟨_,g0⟩
  ·exact ⟨_,by rw[AZ h.p];exact g1⟩
  ·exact ⟨_,g2⟩
  ·exact ⟨_,by rw[au h.n];exact g3⟩
  ·exact ⟨_,by rw[au az];exact g4⟩
  ·exact ⟨_,by rw[au h.k];exact g5⟩
  ·exact ⟨eD,by rw[au hp];exact hb⟩⟩
theorem nG {w:Nat}:AV.ren (six w) (Ag (fP 0 1 2 3))=Ag (fP 0 1 2 3):=rfl
theorem ic {s:AS} {nm m st t c0:Nat} {f:Nat→Int} {eD:Bool} {pc nc kc ps:List SV} (hd:pb s (kU m f pc nc kc)) (h:iy pc nc kc) (hf:eJ f) (hm:m≤8192) (he:st+m / 2≤m) (hr:okB f st (st+m / 2)=true)
  (hb:s.box t=some ⟨eD,ps⟩) (hs:aY ps 0 (aN (aB f st)) (dP f st)) (hc:aN (aB f st)≤c0) (hp:ps.all SV.plain=true) {x q:Int} (hx:x=(st:Int)) (hq:q=bB (aB f st)) {dst:Option Nat} {K:AS→Prop}
  (h0:aC f (st+m / 2) st=st→K (s.put dst (some (Ag (cr f st st (.inr (.inr (t,0,aN (aB f st),c0))))))))
  (h1: ∀ c cs,aY cs 0 (aN (aB f (aC f (st+m / 2) st))) (dP f (aC f (st+m / 2) st))→aN (aB f (aC f (st+m / 2) st))≤c→cs.all SV.plain=true→
   K (({ s with box:=upd s.box nm (some ⟨true,cs⟩) }:AS).put dst (some (Ag (cr f st (aC f (st+m / 2) st) (.inr (.inr (nm,0,aN (aB f (aC f (st+m / 2) st)),c)))))))):
  av Tryz.prog nm 80 (some [Ag (fP 0 1 2 3),I .i64 x,Ag (bJ q (.inr (.inr (t,0,aN (aB f st),c0))))]) dst K s:=by
 subst hx
 subst hq
 refine (Ls (sv:= .inr (.inr (6,0,aN (aB f st),c0))) (pf:=dP f st) h hf hm he hr (.inr ⟨0,c0,rfl,hc,hs⟩) (fun M hM=>hM.1) hp).av (six t) none (Bg hd h hb hp) ?_ ?_
 ·simp only[List.map_cons,List.map_nil,nG,j8,jM,SV.ren,fj]
  rfl
 ·rintro v out (⟨e,rfl,rfl⟩ | ⟨c,cs,g1,g2,g3,rfl,rfl⟩) _
  ·rw[kL]
   have e2:AV.ren (df (six t) 7 nm) (Ag (cr f st st (.inr (.inr (6,0,aN (aB f st),c0)))))=Ag (cr f st st (.inr (.inr (t,0,aN (aB f st),c0)))):=by
    unfold cr
    rw[l9]
    rfl
   rw[e2]
   exact h0 e
  ·rw[bX g3]
   have e2:AV.ren (df (six t) 7 nm) (Ag (cr f st (aC f (st+m / 2) st) (.inr (.inr (7,0,aN (aB f (aC f (st+m / 2) st)),c)))))=Ag (cr f st (aC f (st+m / 2) st) (.inr (.inr (nm,0,aN (aB f (aC f (st+m / 2) st)),c)))):=by
    unfold cr
    rw[l9]
    simp only[SV.ren,fj,gF]
   rw[e2]
   exact h1 c cs g1 g2 g3
def dh (f:Nat→Int) (r:Nat):Option Nat:=
 if okB f r (2*r)=true∧(okB f 0 r=false∨bB (aB f 0) < bB (aB f r)) then some r else if okB f 0 r=true then some 0 else none
def lx:List SV:=[Sum.inl (.int .i64 0),Sum.inl (.int .i64 0),Sum.inl (.int .u64 0),Sum.inl (.slice none 0 0)]
def Lt (k:Nat) (f:Nat→Int) (r:Nat) (v:AV) (out:Nat→Option aI):Prop:=
 (dh f r=none∧v=dH lx (cH 1)∧out=fun _=>none)∨
 (∃ st c cs,dh f r=some st∧aY cs 0 (aN (aB f (aC f (st+r) st))) (dP f (aC f (st+r) st))∧aN (aB f (aC f (st+r) st))≤c∧cs.all SV.plain=true∧v=dH (cr f st (aC f (st+r) st) (.inr (.inr (k,0,aN (aB f (aC f (st+r) st)),c)))) .nilIface∧out=lk [(k,⟨true,cs⟩)])
theorem I5 {s:AS} {k q st p n c:Nat} {f:Nat→Int} {cs:List SV} {Post:AV→(Nat→Option aI)→Prop} (hq:k≤q) (hb:s.box q=some ⟨true,cs⟩) (hp:cs.all SV.plain=true)
  (h:Post (dH (cr f st p (.inr (.inr (k,0,n,c)))) .nilIface) (lk [(k,⟨true,cs⟩)])):m8 k Post (dH (cr f st p (.inr (.inr (q,0,n,c)))) .nilIface) s:=by
 refine dV (q:=q) (v0:=dH (cr f st p (.inr (.inr (k,0,n,c)))) .nilIface) hq ?_ (NY (gB ⟨Nat.lt_succ_self k,rfl⟩) trivial) (fun y hy=> ?_) h
 ·simp only[dH,cr,bA,AV.ren,CV.ren,List.map_cons,List.map_nil,SV.ren,fj,kt]
 ·rw[List.mem_singleton]at hy
  subst hy
  exact ⟨Nat.lt_succ_self k,fun _=>rfl,ao hp,by rw[au hp,kt];exact hb⟩
theorem PU {m:Nat} {f:Nat→Int} {pc nc kc:List SV} (h:iy pc nc kc) (hf:eJ f) (hm:m≤8192) (h2:2≤m):
  bd Tryz.prog 61 [Ag (fP 0 1 2 3)] 6 (lk (kU m f pc nc kc)) (Lt 6 f (m / 2)):=by
 refine cy Tryz.func61 rfl (by kernel_rfl) [8] [] (by simp[Tryz.ntmps61]) Tryz.tH (fun v hv=>by rw[List.mem_singleton]at hv;subst hv;exact dY fun n hn=>by omega) lZ (l5 h) ?_
 simp only[Tryz.results61,kU,aA,bH,seval]
 refine lG (fb m f (by simp only[ae,vR,seval]) (by simp only[ae,vR,seval]) (by simp only[ae,vR,seval]) (by simp only[ae,vR,seval]) (by simp only[ae,vR,seval]) (by simp only[ae,vR,seval])) h (by omega) ?_
 have w2:IntKind.i64.wrap (2*((m / 2:Nat):Int))=((2*(m / 2):Nat):Int):=by rw[wrap_i64 _ (by omega) (by omega)];omega
 simp only[w2,aA,bH,seval]
 have iz: ∀ {s:AS},dh f (m / 2)=none→m8 6 (Lt 6 f (m / 2)) (dH lx (cH 1)) s:=fun {s} hr=>aJ rfl (.inl ⟨hr,rfl,rfl⟩)
 have yk: ∀ {s:AS} {st p q c:Nat} {cs:List SV},dh f (m / 2)=some st→p=aC f (st+m / 2) st→6≤q→s.box q=some ⟨true,cs⟩→aY cs 0 (aN (aB f p)) (dP f p)→aN (aB f p)≤c→cs.all SV.plain=true→
   m8 6 (Lt 6 f (m / 2)) (dH (cr f st p (.inr (.inr (q,0,aN (aB f p),c)))) .nilIface) s:=fun {s st p q c cs} hl hp hq hb g1 g2 g3=>by
  subst hp
  exact I5 hq hb g3 (.inr ⟨st,c,cs,hl,g1,g2,g3,rfl,rfl⟩)
 have em:m / 2+m / 2=2*(m / 2):=by omega
 have ez:0+m / 2=m / 2:=Nat.zero_add _
 refine jv (a:=0) (e:=m / 2) (fb m f (by simp only[ae,vR,seval]) (by simp only[ae,vR,seval]) (by simp only[ae,vR,seval]) (by simp only[ae,vR,seval]) (by simp only[ae,vR,seval]) (by simp only[ae,vR,seval])) h hf hm (by omega) (by omega) rfl rfl (fun hz=> ?_) fun hz c0 cs0 z1 z2 z3=> ?_
 ·have bz:okB f 0 (m / 2)=false:=by simp[okB,hz]
  simp only[fy,fK,bJ,cr,bA,w2,Bool.not_true,Bool.not_false,aA,bH,seval]
  refine jv (a:=m / 2) (e:=2*(m / 2)) (fb m f (by simp only[ae,vR,seval]) (by simp only[ae,vR,seval]) (by simp only[ae,vR,seval]) (by simp only[ae,vR,seval]) (by simp only[ae,vR,seval]) (by simp only[ae,vR,seval])) h hf hm (by omega) (by omega) rfl rfl (fun ho=> ?_) fun ho c1 lr o1 o2 o3=> ?_
  ·have bo:okB f (m / 2) (2*(m / 2))=false:=by simp[okB,ho]
   have hl:dh f (m / 2)=none:=by simp[dh,bo,bz]
   simp only[fy,fK,bJ,cr,bA,w2,Bool.not_true,Bool.not_false,aA,bH,seval]
   refine lq (by kernel_rfl) [] [] [] [0,1,2,3] [] [] [47,48,3] pL (by kernel_rfl) (by kernel_rfl) (by kernel_rfl) (by kernel_rfl) (fun t ht=>(by cases ht)) ?_
   simp only[pL,jg,aA,Tryz.bO,bH,seval]
   first | exact iz hl | exact ⟨iz hl,iz hl⟩ | exact ⟨⟨iz hl,iz hl⟩,iz hl⟩ | exact ⟨iz hl,iz hl,iz hl⟩
  ·by_cases fo:gP f (m / 2)=true
   ·have bo:okB f (m / 2) (2*(m / 2))=true:=by simp[okB,ho,fo]
    have hl:dh f (m / 2)=some (m / 2):=by simp[dh,bo,bz]
    simp only[fo,fy,fK,bJ,cr,bA,w2,Bool.not_true,Bool.not_false,aA,bH,seval]
    refine ic (st:=m / 2) (t:=25) (eD:=true) (fb m f (by simp only[ae,vR,seval]) (by simp only[ae,vR,seval]) (by simp only[ae,vR,seval]) (by simp only[ae,vR,seval]) (by simp only[ae,vR,seval]) (by simp only[ae,vR,seval])) h hf hm (by omega) (by rw[em];exact bo) (by simp only[ae,vR,seval]) o1 o2 o3 rfl rfl (fun e=> ?_) fun c cs g1 g2 g3=> ?_
    ·simp only[fy,fK,bJ,cr,bA,w2,Bool.not_true,Bool.not_false,aA,bH,seval]
     exact yk hl e.symm (by decide) (by simp only[ae,vR,seval]) o1 o2 o3
    ·simp only[fy,fK,bJ,cr,bA,w2,Bool.not_true,Bool.not_false,aA,bH,seval]
     exact yk hl rfl (by decide) (by simp only[ae,vR,seval]) g1 g2 g3
   ·have fo':gP f (m / 2)=false:=by simpa using fo
    have bo:okB f (m / 2) (2*(m / 2))=false:=by simp[okB,fo']
    have hl:dh f (m / 2)=none:=by simp[dh,bo,bz]
    simp only[fo',fy,fK,bJ,cr,bA,w2,Bool.not_true,Bool.not_false,aA,bH,seval]
    refine lq (by kernel_rfl) [] [] [] [0,1,2,3] [] [] [47,48,3] pL (by kernel_rfl) (by kernel_rfl) (by kernel_rfl) (by kernel_rfl) (fun t ht=>(by cases ht)) ?_
    simp only[pL,jg,aA,Tryz.bO,bH,seval]
    first | exact iz hl | exact ⟨iz hl,iz hl⟩ | exact ⟨⟨iz hl,iz hl⟩,iz hl⟩ | exact ⟨iz hl,iz hl,iz hl⟩
 ·simp only[fy,fK,bJ,cr,bA,w2,Bool.not_true,Bool.not_false,aA,bH,seval]
  refine jv (a:=m / 2) (e:=2*(m / 2)) (fb m f (by simp only[ae,vR,seval]) (by simp only[ae,vR,seval]) (by simp only[ae,vR,seval]) (by simp only[ae,vR,seval]) (by simp only[ae,vR,seval]) (by simp only[ae,vR,seval])) h hf hm (by omega) (by omega) rfl rfl (fun ho=> ?_) fun ho c1 lr o1 o2 o3=> ?_
  ·have bo:okB f (m / 2) (2*(m / 2))=false:=by simp[okB,ho]
   by_cases fz:gP f 0=true
   ·have bz:okB f 0 (m / 2)=true:=by simp[okB,hz,fz]
    have hl:dh f (m / 2)=some 0:=by simp[dh,bo,bz]
    simp only[fz,fy,fK,bJ,cr,bA,w2,Bool.not_true,Bool.not_false,aA,bH,seval]
    refine ic (st:=0) (t:=14) (eD:=true) (fb m f (by simp only[ae,vR,seval]) (by simp only[ae,vR,seval]) (by simp only[ae,vR,seval]) (by simp only[ae,vR,seval]) (by simp only[ae,vR,seval]) (by simp only[ae,vR,seval])) h hf hm (by omega) (by rw[ez];exact bz) (by simp only[ae,vR,seval]) z1 z2 z3 rfl rfl (fun e=> ?_) fun c cs g1 g2 g3=> ?_
    ·simp only[fy,fK,bJ,cr,bA,w2,Bool.not_true,Bool.not_false,aA,bH,seval]
     exact yk hl e.symm (by decide) (by simp only[ae,vR,seval]) z1 z2 z3
    ·rw[ez]at g1 g2
     simp only[fy,fK,bJ,cr,bA,w2,Bool.not_true,Bool.not_false,aA,bH,seval]
     exact yk hl (by rw[ez]) (by decide) (by simp only[ae,vR,seval]) g1 g2 g3
   ·have Xg:gP f 0=false:=by simpa using fz
    have bz:okB f 0 (m / 2)=false:=by simp[okB,Xg]
    have hl:dh f (m / 2)=none:=by simp[dh,bo,bz]
    simp only[Xg,fy,fK,bJ,cr,bA,w2,Bool.not_true,Bool.not_false,aA,bH,seval]
    refine lq (by kernel_rfl) [] [] [] [0,1,2,3] [] [] [47,48,3] pL (by kernel_rfl) (by kernel_rfl) (by kernel_rfl) (by kernel_rfl) (fun t ht=>(by cases ht)) ?_
    simp only[pL,jg,aA,Tryz.bO,bH,seval]
    first | exact iz hl | exact ⟨iz hl,iz hl⟩ | exact ⟨⟨iz hl,iz hl⟩,iz hl⟩ | exact ⟨iz hl,iz hl,iz hl⟩
  ·by_cases fo:gP f (m / 2)=true
   ·have bo:okB f (m / 2) (2*(m / 2))=true:=by simp[okB,ho,fo]
    by_cases fz:gP f 0=true
    ·have bz:okB f 0 (m / 2)=true:=by simp[okB,hz,fz]
     by_cases hq:bB (aB f 0) < bB (aB f (m / 2))
     ·have hl:dh f (m / 2)=some (m / 2):=by simp[dh,bo,hq]
      simp only[fo,fz,hq,decide_true,fy,fK,bJ,cr,bA,w2,Bool.not_true,Bool.not_false,aA,bH,seval]
      refine ic (st:=m / 2) (t:=25) (eD:=true) (fb m f (by simp only[ae,vR,seval]) (by simp only[ae,vR,seval]) (by simp only[ae,vR,seval]) (by simp only[ae,vR,seval]) (by simp only[ae,vR,seval]) (by simp only[ae,vR,seval])) h hf hm (by omega) (by rw[em];exact bo) (by simp only[ae,vR,seval]) o1 o2 o3 rfl rfl (fun e=> ?_) fun c cs g1 g2 g3=> ?_
      ·simp only[fy,fK,bJ,cr,bA,w2,Bool.not_true,Bool.not_false,aA,bH,seval]
       exact yk hl e.symm (by decide) (by simp only[ae,vR,seval]) o1 o2 o3
      ·simp only[fy,fK,bJ,cr,bA,w2,Bool.not_true,Bool.not_false,aA,bH,seval]
       exact yk hl rfl (by decide) (by simp only[ae,vR,seval]) g1 g2 g3
     ·have hl:dh f (m / 2)=some 0:=by simp[dh,bo,bz,hq]
      simp only[fo,fz,hq,decide_false,fy,fK,bJ,cr,bA,w2,Bool.not_true,Bool.not_false,aA,bH,seval]
      refine ic (st:=0) (t:=14) (eD:=true) (fb m f (by simp only[ae,vR,seval]) (by simp only[ae,vR,seval]) (by simp only[ae,vR,seval]) (by simp only[ae,vR,seval]) (by simp only[ae,vR,seval]) (by simp only[ae,vR,seval])) h hf hm (by omega) (by rw[ez];exact bz) (by simp only[ae,vR,seval]) z1 z2 z3 rfl rfl (fun e=> ?_) fun c cs g1 g2 g3=> ?_
      ·simp only[fy,fK,bJ,cr,bA,w2,Bool.not_true,Bool.not_false,aA,bH,seval]
       exact yk hl e.symm (by decide) (by simp only[ae,vR,seval]) z1 z2 z3
      ·rw[ez]at g1 g2
       simp only[fy,fK,bJ,cr,bA,w2,Bool.not_true,Bool.not_false,aA,bH,seval]
       exact yk hl (by rw[ez]) (by decide) (by simp only[ae,vR,seval]) g1 g2 g3
    ·have Xg:gP f 0=false:=by simpa using fz
     have bz:okB f 0 (m / 2)=false:=by simp[okB,Xg]
     have hl:dh f (m / 2)=some (m / 2):=by simp[dh,bo,bz]
     simp only[fo,Xg,fy,fK,bJ,cr,bA,w2,Bool.not_true,Bool.not_false,aA,bH,seval]
     refine ic (st:=m / 2) (t:=25) (eD:=true) (fb m f (by simp only[ae,vR,seval]) (by simp only[ae,vR,seval]) (by simp only[ae,vR,seval]) (by simp only[ae,vR,seval]) (by simp only[ae,vR,seval]) (by simp only[ae,vR,seval])) h hf hm (by omega) (by rw[em];exact bo) (by simp only[ae,vR,seval]) o1 o2 o3 rfl rfl (fun e=> ?_) fun c cs g1 g2 g3=> ?_
     ·simp only[fy,fK,bJ,cr,bA,w2,Bool.not_true,Bool.not_false,aA,bH,seval]
      exact yk hl e.symm (by decide) (by simp only[ae,vR,seval]) o1 o2 o3
     ·simp only[fy,fK,bJ,cr,bA,w2,Bool.not_true,Bool.not_false,aA,bH,seval]
      exact yk hl rfl (by decide) (by simp only[ae,vR,seval]) g1 g2 g3
   ·have fo':gP f (m / 2)=false:=by simpa using fo
    have bo:okB f (m / 2) (2*(m / 2))=false:=by simp[okB,fo']
    by_cases fz:gP f 0=true
    ·have bz:okB f 0 (m / 2)=true:=by simp[okB,hz,fz]
     have hl:dh f (m / 2)=some 0:=by simp[dh,bo,bz]
     simp only[fo',fz,fy,fK,bJ,cr,bA,w2,Bool.not_true,Bool.not_false,aA,bH,seval]
     refine ic (st:=0) (t:=14) (eD:=true) (fb m f (by simp only[ae,vR,seval]) (by simp only[ae,vR,seval]) (by simp only[ae,vR,seval]) (by simp only[ae,vR,seval]) (by simp only[ae,vR,seval]) (by simp only[ae,vR,seval])) h hf hm (by omega) (by rw[ez];exact bz) (by simp only[ae,vR,seval]) z1 z2 z3 rfl rfl (fun e=> ?_) fun c cs g1 g2 g3=> ?_
     ·simp only[fy,fK,bJ,cr,bA,w2,Bool.not_true,Bool.not_false,aA,bH,seval]
      exact yk hl e.symm (by decide) (by simp only[ae,vR,seval]) z1 z2 z3
     ·rw[ez]at g1 g2
      simp only[fy,fK,bJ,cr,bA,w2,Bool.not_true,Bool.not_false,aA,bH,seval]
      exact yk hl (by rw[ez]) (by decide) (by simp only[ae,vR,seval]) g1 g2 g3
    ·have Xg:gP f 0=false:=by simpa using fz
     have bz:okB f 0 (m / 2)=false:=by simp[okB,Xg]
     have hl:dh f (m / 2)=none:=by simp[dh,bo,bz]
     simp only[fo',Xg,fy,fK,bJ,cr,bA,w2,Bool.not_true,Bool.not_false,aA,bH,seval]
     refine lq (by kernel_rfl) [] [] [] [0,1,2,3] [] [] [47,48,3] pL (by kernel_rfl) (by kernel_rfl) (by kernel_rfl) (by kernel_rfl) (fun t ht=>(by cases ht)) ?_
     simp only[pL,jg,aA,Tryz.bO,bH,seval]
     first | exact iz hl | exact ⟨iz hl,iz hl⟩ | exact ⟨⟨iz hl,iz hl⟩,iz hl⟩ | exact ⟨iz hl,iz hl,iz hl⟩
def dx (f:Nat→Int) (st nx a:Nat):Bool:=(decide (a < st)||decide (nx≤a))&& !pN 64 (aB f a) zF
def dD (f:Nat→Int) (st nx n:Nat):List Nat:=(List.range n).filter (dx f st nx)
theorem qJ {f:Nat→Int} {st nx n:Nat}:dD f st nx (n+1)=dD f st nx n++if dx f st nx n=true then [n] else []:=by
 unfold dD
 rw[List.range_succ,List.filter_append,List.filter_cons,List.filter_nil]
theorem mV {f:Nat→Int} {st nx n:Nat}:(dD f st nx n).length≤n:=by
 have:=List.length_filter_le (dx f st nx) (List.range n)
 rw[List.length_range]at this
 exact this
def ZG (k:Nat) (A:List Nat) (v:AV) (out:Nat→Option aI):Prop:=
 (A=[]∧v=V (.slice none 0 0)∧out=fun _=>none)∨(A≠[]∧ ∃ c cs,gb cs A c∧v=Sl k 0 A.length c∧out=lk [(k,⟨true,cs⟩)])
def pP (m k:Nat) (v:AV):List (Nat×AV):=[(2,Ptr 7 0),(3,Ptr 8 0),(5,v),(9,I .i64 m),(10,I .i64 k)]
def qb (m:Nat) (f:Nat→Int) (pc nc kc ps:List SV) (l:List SV):List (Nat×aI):=[(0,⟨false,[Sum.inr (.inr (4,0,m,m))]⟩),(1,⟨false,pc⟩),(2,⟨false,[Sum.inl (.slice none 0 0)]⟩),(3,⟨false,nc⟩),(4,⟨false,ai .u8 (64*m) f⟩),(5,⟨false,kc⟩),(6,⟨false,ps⟩),(7,⟨true,fP 0 1 2 3⟩),(8,⟨true,l⟩)]
theorem ZH {m:Nat} {f:Nat→Int} {pc nc kc ps l:List SV} (hd:iy pc nc kc) (hp:ps.all SV.plain=true) (hl: ∀ x ∈ l,SV.ok (fun n=>n < 60) x): ∀ x ∈ qb m f pc nc kc ps l,x.1 < 60∧ ∀ y ∈ x.2.cells,SV.ok (fun n=>n < 60) y:=fun x hx=>by
 simp only[qb,bQ]at hx
 rcases hx with rfl | rfl | rfl | rfl | rfl | rfl | rfl | rfl | rfl
 ·exact ⟨(by decide:0 < 60),fun y hy=>by rw[List.mem_singleton]at hy;subst hy;exact ⟨(by decide:4 < 60),rfl⟩⟩
 ·exact ⟨(by decide:1 < 60),fun x hx=>SV.aL (fun n hn=>by omega) (hd.p x hx)⟩
 ·exact ⟨(by decide:2 < 60),ao rfl⟩
 ·exact ⟨(by decide:3 < 60),ao hd.n⟩
 ·exact ⟨(by decide:4 < 60),ao az⟩
 ·exact ⟨(by decide:5 < 60),ao hd.k⟩
 ·exact ⟨(by decide:6 < 60),ao hp⟩
 ·exact ⟨(by decide:7 < 60),dY fun n hn=>by omega⟩
 ·exact ⟨(by decide:8 < 60),hl⟩
theorem ZI {m k n c:Nat}: ∀ x ∈ pP m k (Sl 60 0 n c),AV.ok (fun n=>n < 61) x.2:=fun x hx=>by
 simp only[pP,bQ]at hx
 rcases hx with rfl | rfl | rfl | rfl | rfl
 ·exact (by decide:7 < 61)
 ·exact (by decide:8 < 61)
 ·exact (by decide:60 < 61)
 ·trivial
 ·trivial
theorem yD {s:AS} {m' m k n c q:Nat} {f:Nat→Int} {pc nc kc ps l es:List SV} (hm':m'≤60) (hq:61≤q) (hd:iy pc nc kc) (hp:ps.all SV.plain=true) (hl: ∀ x ∈ l,SV.ok (fun n=>n < 60) x) (PQ:es.all SV.plain=true)
  (he: ∀ x ∈ pP m k (Sl q 0 n c),s.env x.1=some x.2) (hX: ∀ x ∈ qb m f pc nc kc ps l,s.box x.1=some x.2) (hc:s.box q=some ⟨true,es⟩):ll m' s (pF (pP m k (Sl 60 0 n c)) ((60,⟨true,es⟩)::qb m f pc nc kc ps l) 61):=by
 refine wD hm' hq (fun x hx=> ?_) ZI PQ hX (ZH hd hp hl) hc
 simp only[pP,bQ,forall_eq_or_imp,forall_eq]at hx he
 obtain ⟨h2,h3,h5,h9,h10⟩:=he
 rcases hx with rfl | rfl | rfl | rfl | rfl
 ·exact h2
 ·exact h3
 ·have:AV.ren (upd (fun n=>n) 60 q) (Sl 60 0 n c)=Sl q 0 n c:=by
   show Sl (upd (fun n=>n) 60 q 60) 0 n c=_
   rw[aQ]
  rw[this]
  exact h5
 ·exact h9
 ·exact h10
theorem xU {m st nx np:Nat} {q:Int} {sv:SV} {f pf:Nat→Int} {pc nc kc ps:List SV} (h:iy pc nc kc) (hm:m≤8192) (hl:cS 6 sv np pf ps) (hp:ps.all SV.plain=true):
  bd Tryz.prog 62 [Ag (fP 0 1 2 3),Ag (bA st nx q sv)] 7 (lk (SA m f pc nc kc ps)) (ZG 7 (dD f st nx m)):=by
 refine cy Tryz.func62 rfl (by kernel_rfl) [] [] (by simp[Tryz.ntmps62]) Tryz.tI (fun v hv=>by
  simp only[bQ]at hv
  rcases hv with rfl | rfl
  ·exact dY fun n hn=>by omega
  ·exact gB (hl.ok (by decide))) N1 (N2 h hp) ?_
 have hok: ∀ {M:Nat→Prop},M 6→SV.ok M sv:=fun h=>hl.ok h
 simp only[Tryz.results62,SA,bA,bH,seval]
 refine D9 (fb m f (by simp only[ae,vR,seval]) (by simp only[ae,vR,seval]) (by simp only[ae,vR,seval]) (by simp only[ae,vR,seval]) (by simp only[ae,vR,seval]) (by simp only[ae,vR,seval])) h ?_
 simp only[bH,seval]
 have ZJ:(SV.ok (fun n=>n < 61) (Sum.inr (Sum.inr (4,0,m,m)))∧(∀ x ∈ pc,SV.ok (fun n=>n < 61) x)∧SV.ok (fun n=>n < 61) (Sum.inl (Value.slice none 0 0))∧(∀ x ∈ nc,SV.ok (fun n=>n < 61) x)∧(∀ x ∈ kc,SV.ok (fun n=>n < 61) x)∧(∀ x ∈ ps,SV.ok (fun n=>n < 61) x)∧(∀ x ∈ fP 0 1 2 3,SV.ok (fun n=>n < 61) x)∧SV.ok (fun n=>n < 61) sv):=
  ⟨⟨(by decide:4 < 61),rfl⟩,fun x hx=>SV.aL (fun n hn=>by omega) (h.p x hx),⟨trivial,rfl⟩,ao h.n,ao h.k,ao hp,dY fun n hn=>by omega,hok (by decide)⟩
 refine mQ m (fun k t=>(dD f st nx k=[]∧t=pF (pP m k (V (.slice none 0 0))) (qb m f pc nc kc ps (bA st nx q sv)) 61)∨
  (dD f st nx k≠[]∧ ∃ c es,gb es (dD f st nx k) c∧t=pF (pP m k (Sl 60 0 (dD f st nx k).length c)) ((60,⟨true,es⟩)::qb m f pc nc kc ps (bA st nx q sv)) 61)) ?_ ?_ ?_ ?_
 ·rintro k t (⟨_,rfl⟩ | ⟨_,_,_,_,rfl⟩)<;>(show (15:Nat)≤61;decide)
 ·refine ⟨_, .inl ⟨rfl,rfl⟩,ev.qa ?_⟩
  simp only[pP,qb,bA,bH,seval]
  exact ⟨trivial,ZJ⟩
 ·rintro k t hk hI
  have SC:dx f st nx k=false→dD f st nx (k+1)=dD f st nx k:=fun e=>by rw[qJ,e];simp
  have Cy:dx f st nx k=true→dD f st nx (k+1)=dD f st nx k++[k]:=fun e=>by rw[qJ,e];simp
  rcases hI with ⟨h0,rfl⟩ | ⟨h0,c,es,hg,rfl⟩
  ·skip
   by_cases c1:k < st
   ·have d1:(((k:Nat):Int) < ((st:Nat):Int))=True:=eq_true (by omega)
    simp only[d1,pP,qb,bA,aF,aP hk,decide_true,decide_false,Bool.not_true,Bool.not_false,bU k (by omega),aA,lu,bH,seval]
    refine mg (a:=k) (fb m f (by simp only[ae,vR,seval]) (by simp only[ae,vR,seval]) (by simp only[ae,vR,seval]) (by simp only[ae,vR,seval]) (by simp only[ae,vR,seval]) (by simp only[ae,vR,seval])) h hk (by omega) ?_
    have eS:(fun i=>f (k*64+i))=aB f k:=rfl
    by_cases hE:pN 64 (aB f k) zF=true
    ·have qc:dx f st nx k=false:=by simp[dx,hE]
     simp only[d1,eS,kX,hE,pP,qb,bA,aF,aP hk,decide_true,decide_false,Bool.not_true,Bool.not_false,bU k (by omega),aA,lu,bH,seval]
     refine ⟨_, .inl ⟨by rw[SC qc,h0],rfl⟩,ev.qa ?_⟩
     simp only[pP,qb,bA,bH,seval]
     exact ⟨trivial,ZJ⟩
    ·have N0:pN 64 (aB f k) zF=false:=by simpa using hE
     have hs:dx f st nx k=true:=by simp[dx,N0,c1]
     simp only[d1,eS,kX,N0,pP,qb,bA,aF,aP hk,decide_true,decide_false,Bool.not_true,Bool.not_false,bU k (by omega),aA,lu,bH,seval]
     refine wC (a:=k) (eD:=true) Tryz.xI Tryz.D3 ?_ (by decide) fun c3 IL fS=> ?_
     ·simp only[ot,aq,ay,ae,vR,seval]
     simp only[pP,qb,bA,aF,aP hk,decide_true,decide_false,Bool.not_true,Bool.not_false,bU k (by omega),aA,lu,bH,seval]
     refine ⟨_, .inr ⟨by rw[Cy hs];simp,c3,IL,by rw[Cy hs,h0];exact fS,rfl⟩, ?_⟩
     rw[Cy hs,h0]
     refine yD (q:=85) (by decide) (by decide) h hp (gB (hok (by decide))) fS.plain ?_ ?_ ?_<;>(simp only[pP,qb,bA,List.nil_append,List.length_singleton,bH,seval];done)
   ·have d1:(((k:Nat):Int) < ((st:Nat):Int))=False:=eq_false (by omega)
    by_cases c2:nx≤k
    ·have d2:(((nx:Nat):Int)≤((k:Nat):Int))=True:=eq_true (by omega)
     simp only[d1,d2,pP,qb,bA,aF,aP hk,decide_true,decide_false,Bool.not_true,Bool.not_false,bU k (by omega),aA,lu,bH,seval]
     refine mg (a:=k) (fb m f (by simp only[ae,vR,seval]) (by simp only[ae,vR,seval]) (by simp only[ae,vR,seval]) (by simp only[ae,vR,seval]) (by simp only[ae,vR,seval]) (by simp only[ae,vR,seval])) h hk (by omega) ?_
     have eS:(fun i=>f (k*64+i))=aB f k:=rfl
     by_cases hE:pN 64 (aB f k) zF=true
     ·have qc:dx f st nx k=false:=by simp[dx,hE]
      simp only[d1,d2,eS,kX,hE,pP,qb,bA,aF,aP hk,decide_true,decide_false,Bool.not_true,Bool.not_false,bU k (by omega),aA,lu,bH,seval]
      refine ⟨_, .inl ⟨by rw[SC qc,h0],rfl⟩,ev.qa ?_⟩
      simp only[pP,qb,bA,bH,seval]
      exact ⟨trivial,ZJ⟩
     ·have N0:pN 64 (aB f k) zF=false:=by simpa using hE
      have hs:dx f st nx k=true:=by simp[dx,N0,c2]
      simp only[d1,d2,eS,kX,N0,pP,qb,bA,aF,aP hk,decide_true,decide_false,Bool.not_true,Bool.not_false,bU k (by omega),aA,lu,bH,seval]
      refine wC (a:=k) (eD:=true) Tryz.xI Tryz.D3 ?_ (by decide) fun c3 IL fS=> ?_
      ·simp only[ot,aq,ay,ae,vR,seval]
      simp only[pP,qb,bA,aF,aP hk,decide_true,decide_false,Bool.not_true,Bool.not_false,bU k (by omega),aA,lu,bH,seval]
      refine ⟨_, .inr ⟨by rw[Cy hs];simp,c3,IL,by rw[Cy hs,h0];exact fS,rfl⟩, ?_⟩
      rw[Cy hs,h0]
      refine yD (q:=85) (by decide) (by decide) h hp (gB (hok (by decide))) fS.plain ?_ ?_ ?_<;>(simp only[pP,qb,bA,List.nil_append,List.length_singleton,bH,seval];done)
    ·have d2:(((nx:Nat):Int)≤((k:Nat):Int))=False:=eq_false (by omega)
     have qc:dx f st nx k=false:=by simp[dx,c1,c2]
     simp only[d1,d2,pP,qb,bA,aF,aP hk,decide_true,decide_false,Bool.not_true,Bool.not_false,bU k (by omega),aA,lu,bH,seval]
     refine ⟨_, .inl ⟨by rw[SC qc,h0],rfl⟩,ev.qa ?_⟩
     simp only[pP,qb,bA,bH,seval]
     exact ⟨trivial,ZJ⟩
  ·skip
   by_cases c1:k < st
   ·have d1:(((k:Nat):Int) < ((st:Nat):Int))=True:=eq_true (by omega)
    simp only[d1,pP,qb,bA,aF,aP hk,decide_true,decide_false,Bool.not_true,Bool.not_false,bU k (by omega),aA,lu,bH,seval]
    refine mg (a:=k) (fb m f (by simp only[ae,vR,seval]) (by simp only[ae,vR,seval]) (by simp only[ae,vR,seval]) (by simp only[ae,vR,seval]) (by simp only[ae,vR,seval]) (by simp only[ae,vR,seval])) h hk (by omega) ?_
    have eS:(fun i=>f (k*64+i))=aB f k:=rfl
    by_cases hE:pN 64 (aB f k) zF=true
    ·have qc:dx f st nx k=false:=by simp[dx,hE]
     simp only[d1,eS,kX,hE,pP,qb,bA,aF,aP hk,decide_true,decide_false,Bool.not_true,Bool.not_false,bU k (by omega),aA,lu,bH,seval]
     rw[SC qc]
     refine ⟨_, .inr ⟨h0,c,es,hg,rfl⟩,ev.qa ?_⟩
     simp only[pP,qb,bA,bH,seval]
     exact ⟨ao hg.plain,ZJ⟩
    ·have N0:pN 64 (aB f k) zF=false:=by simpa using hE
     have hs:dx f st nx k=true:=by simp[dx,N0,c1]
     simp only[d1,eS,kX,N0,pP,qb,bA,aF,aP hk,decide_true,decide_false,Bool.not_true,Bool.not_false,bU k (by omega),aA,lu,bH,seval]
     refine A9 (a:=k) (eD:=true) Tryz.xI Tryz.D3 hg ?_ ?_ (by decide) (by have:=mV (f:=f) (st:=st) (nx:=nx) (n:=k);omega) (by decide) fun c3 IL fS=> ?_
     ·simp only[ot,aq,ay,ae,vR,seval]
     ·simp only[ot,aq,ay,ae,vR,seval]
     simp only[pP,qb,bA,aF,aP hk,decide_true,decide_false,Bool.not_true,Bool.not_false,bU k (by omega),aA,lu,bH,seval]
     refine ⟨_, .inr ⟨by rw[Cy hs];simp,c3,IL,by rw[Cy hs];exact fS,rfl⟩, ?_⟩
     rw[Cy hs]
     refine yD (q:=85) (by decide) (by decide) h hp (gB (hok (by decide))) fS.plain ?_ ?_ ?_<;>(simp only[pP,qb,bA,List.length_append,List.length_singleton,bH,seval];done)
   ·have d1:(((k:Nat):Int) < ((st:Nat):Int))=False:=eq_false (by omega)
    by_cases c2:nx≤k
    ·have d2:(((nx:Nat):Int)≤((k:Nat):Int))=True:=eq_true (by omega)
     simp only[d1,d2,pP,qb,bA,aF,aP hk,decide_true,decide_false,Bool.not_true,Bool.not_false,bU k (by omega),aA,lu,bH,seval]
     refine mg (a:=k) (fb m f (by simp only[ae,vR,seval]) (by simp only[ae,vR,seval]) (by simp only[ae,vR,seval]) (by simp only[ae,vR,seval]) (by simp only[ae,vR,seval]) (by simp only[ae,vR,seval])) h hk (by omega) ?_
     have eS:(fun i=>f (k*64+i))=aB f k:=rfl
     by_cases hE:pN 64 (aB f k) zF=true
     ·have qc:dx f st nx k=false:=by simp[dx,hE]
      simp only[d1,d2,eS,kX,hE,pP,qb,bA,aF,aP hk,decide_true,decide_false,Bool.not_true,Bool.not_false,bU k (by omega),aA,lu,bH,seval]
      rw[SC qc]
      refine ⟨_, .inr ⟨h0,c,es,hg,rfl⟩,ev.qa ?_⟩
      simp only[pP,qb,bA,bH,seval]
      exact ⟨ao hg.plain,ZJ⟩
     ·have N0:pN 64 (aB f k) zF=false:=by simpa using hE
      have hs:dx f st nx k=true:=by simp[dx,N0,c2]
      simp only[d1,d2,eS,kX,N0,pP,qb,bA,aF,aP hk,decide_true,decide_false,Bool.not_true,Bool.not_false,bU k (by omega),aA,lu,bH,seval]
      refine A9 (a:=k) (eD:=true) Tryz.xI Tryz.D3 hg ?_ ?_ (by decide) (by have:=mV (f:=f) (st:=st) (nx:=nx) (n:=k);omega) (by decide) fun c3 IL fS=> ?_
      ·simp only[ot,aq,ay,ae,vR,seval]
      ·simp only[ot,aq,ay,ae,vR,seval]
      simp only[pP,qb,bA,aF,aP hk,decide_true,decide_false,Bool.not_true,Bool.not_false,bU k (by omega),aA,lu,bH,seval]
      refine ⟨_, .inr ⟨by rw[Cy hs];simp,c3,IL,by rw[Cy hs];exact fS,rfl⟩, ?_⟩
      rw[Cy hs]
      refine yD (q:=85) (by decide) (by decide) h hp (gB (hok (by decide))) fS.plain ?_ ?_ ?_<;>(simp only[pP,qb,bA,List.length_append,List.length_singleton,bH,seval];done)
    ·have d2:(((nx:Nat):Int)≤((k:Nat):Int))=False:=eq_false (by omega)
     have qc:dx f st nx k=false:=by simp[dx,c1,c2]
     simp only[d1,d2,pP,qb,bA,aF,aP hk,decide_true,decide_false,Bool.not_true,Bool.not_false,bU k (by omega),aA,lu,bH,seval]
     rw[SC qc]
     refine ⟨_, .inr ⟨h0,c,es,hg,rfl⟩,ev.qa ?_⟩
     simp only[pP,qb,bA,bH,seval]
     exact ⟨ao hg.plain,ZJ⟩
 ·rintro t (⟨h0,rfl⟩ | ⟨h0,c,es,hg,rfl⟩)
  ·simp only[pP,qb,bA,Int.lt_irrefl,decide_false,aF,bH,seval]
   exact aJ rfl (.inl ⟨h0,rfl,rfl⟩)
  ·simp only[pP,qb,bA,Int.lt_irrefl,decide_false,aF,bH,seval]
   exact gR (k:=7) (q:=60) (cs:=es) (by decide) (by simp only[ae,vR,seval]) hg.plain (.inr ⟨h0,c,es,hg,rfl,rfl⟩)
theorem uY {s:AS} {nm m:Nat} {f:Nat→Int} {pc nc kc:List SV} (hd:pb s (kU m f pc nc kc)) (h:iy pc nc kc) (hf:eJ f) (hm:m≤8192) (h2:2≤m) {dst:Option Nat} {K:AS→Prop}
  (h0:dh f (m / 2)=none→K (s.put dst (some (dH lx (cH 1)))))
  (h1: ∀ st c cs,dh f (m / 2)=some st→aY cs 0 (aN (aB f (aC f (st+m / 2) st))) (dP f (aC f (st+m / 2) st))→aN (aB f (aC f (st+m / 2) st))≤c→cs.all SV.plain=true→
   K (({ s with box:=upd s.box nm (some ⟨true,cs⟩) }:AS).put dst (some (dH (cr f st (aC f (st+m / 2) st) (.inr (.inr (nm,0,aN (aB f (aC f (st+m / 2) st)),c)))) .nilIface)))):
  av Tryz.prog nm 61 (some [Ag (fP 0 1 2 3)]) dst K s:=by
 refine (PU h hf hm h2).av (fun n=>n) none (hd.fits kJ) (fC _) ?_
 rintro v out (⟨hr,rfl,rfl⟩ | ⟨st,c,cs,hr,g1,g2,g3,rfl,rfl⟩) _
 ·rw[kL,AV.dG (show AV.plain (dH lx (cH 1))=true from rfl)]
  exact h0 hr
 ·rw[bX g3]
  have e2:AV.ren (df (fun n=>n) 6 nm) (dH (cr f st (aC f (st+m / 2) st) (.inr (.inr (6,0,aN (aB f (aC f (st+m / 2) st)),c)))) .nilIface)=dH (cr f st (aC f (st+m / 2) st) (.inr (.inr (nm,0,aN (aB f (aC f (st+m / 2) st)),c)))) .nilIface:=by
   simp only[dH,cr,bA,AV.ren,CV.ren,List.map_cons,List.map_nil,SV.ren,fj,gF]
  rw[e2]
  exact h1 st c cs hr g1 g2 g3
theorem Bh {s:AS} {nm m t st nx np c0:Nat} {q:Int} {f pf:Nat→Int} {eD:Bool} {pc nc kc ps:List SV} (hd:pb s (kU m f pc nc kc)) (h:iy pc nc kc) (hm:m≤8192) (hb:s.box t=some ⟨eD,ps⟩) (hs:aY ps 0 np pf) (hc:np≤c0) (hp:ps.all SV.plain=true) {dst:Option Nat} {K:AS→Prop}
  (h0:dD f st nx m=[]→K (s.put dst (some (V (.slice none 0 0)))))
  (h1:dD f st nx m≠[]→ ∀ c cs,gb cs (dD f st nx m) c→K (({ s with box:=upd s.box nm (some ⟨true,cs⟩) }:AS).put dst (some (Sl nm 0 (dD f st nx m).length c)))):
  av Tryz.prog nm 62 (some [Ag (fP 0 1 2 3),Ag (bA st nx q (.inr (.inr (t,0,np,c0))))]) dst K s:=by
 refine (xU (q:=q) (sv:= .inr (.inr (6,0,np,c0))) (pf:=pf) (st:=st) (nx:=nx) (f:=f) h hm (.inr ⟨0,c0,rfl,hc,hs⟩) hp).av (six t) none (Bg hd h hb hp) ?_ ?_
 ·simp only[List.map_cons,List.map_nil,nG,l9,SV.ren,fj]
  rfl
 ·rintro v out (⟨e,rfl,rfl⟩ | ⟨e,c,cs,g,rfl,rfl⟩) _
  ·rw[kL]
   exact h0 e
  ·rw[bX g.plain]
   have e2:AV.ren (df (six t) 7 nm) (Sl 7 0 (dD f st nx m).length c)=Sl nm 0 (dD f st nx m).length c:=by
    show Sl (df (six t) 7 nm 7) 0 _ _=_
    rw[gF]
   rw[e2]
   exact h1 e c cs g
def cM (f:Nat→Int) (m st:Nat):List Nat:=dD f st (aE f (aC f (st+m / 2) st)) m
def N3 (k:Nat) (f:Nat→Int) (m:Nat) (v:AV) (out:Nat→Option aI):Prop:=
 (dh f (m / 2)=none∧v=dH lx (cH 1)∧out=fun _=>none)∨
 (∃ st,dh f (m / 2)=some st∧cM f m st≠[]∧v=dH lx (cH 2)∧out=fun _=>none)∨
 (∃ st c cs,dh f (m / 2)=some st∧cM f m st=[]∧aY cs 0 (aN (aB f (aC f (st+m / 2) st))) (dP f (aC f (st+m / 2) st))∧aN (aB f (aC f (st+m / 2) st))≤c∧cs.all SV.plain=true∧v=dH (cr f st (aC f (st+m / 2) st) (.inr (.inr (k,0,aN (aB f (aC f (st+m / 2) st)),c)))) .nilIface∧out=lk [(k,⟨true,cs⟩)])
theorem Bi {m:Nat} {f:Nat→Int} {pc nc kc:List SV} (h:iy pc nc kc) (hf:eJ f) (hm:m≤8192) (h2:2≤m):
  bd Tryz.prog 30 [Ag (fP 0 1 2 3)] 6 (lk (kU m f pc nc kc)) (N3 6 f m):=by
 refine cy Tryz.func30 rfl (by kernel_rfl) [5] [] (by simp[Tryz.ntmps30]) Tryz.s9 (fun v hv=>by rw[List.mem_singleton]at hv;subst hv;exact dY fun n hn=>by omega) lZ (l5 h) ?_
 simp only[Tryz.results30,kU,aA,bH,seval]
 refine uY (fb m f (by simp only[ae,vR,seval]) (by simp only[ae,vR,seval]) (by simp only[ae,vR,seval]) (by simp only[ae,vR,seval]) (by simp only[ae,vR,seval]) (by simp only[ae,vR,seval])) h hf hm h2 (fun hl=> ?_) fun st c cs hl g1 g2 g3=> ?_
 ·simp only[dH,lx,cH,aA,bH,seval]
  exact aJ rfl (.inl ⟨hl,rfl,rfl⟩)
 ·simp only[dH,cr,bA,aA,bH,seval]
  refine Bh (t:=10) (eD:=true) (np:=aN (aB f (aC f (st+m / 2) st))) (c0:=c) (pf:=dP f (aC f (st+m / 2) st)) (ps:=cs) (fb m f (by simp only[ae,vR,seval]) (by simp only[ae,vR,seval]) (by simp only[ae,vR,seval]) (by simp only[ae,vR,seval]) (by simp only[ae,vR,seval]) (by simp only[ae,vR,seval])) h hm (by simp only[ae,vR,seval]) g1 g2 g3 (fun e=> ?_) fun e c1 lr k1=> ?_
  ·simp only[cr,bA,decide_false,aA,bH,seval]
   exact I5 (q:=10) (by decide) (by simp only[ae,vR,seval]) g3 (.inr (.inr ⟨st,c,cs,hl,e,g1,g2,g3,rfl,rfl⟩))
  ·have hlen:((0:Int) < ((dD f st (aE f (aC f (st+m / 2) st)) m).length:Int))=True:=eq_true (by have:=List.length_pos_iff.2 e;omega)
   simp only[hlen,decide_true,cr,bA,aA,bH,seval]
   refine lq (by kernel_rfl) [] [] [] [0,1,2,3] [] [] [20,21,3] pL (by kernel_rfl) (by kernel_rfl) (by kernel_rfl) (by kernel_rfl) (fun t ht=>(by cases ht)) ?_
   simp only[pL,jg,aA,Tryz.bO,bH,seval]
   have fin: ∀ {s:AS},m8 6 (N3 6 f m) (dH lx (cH 2)) s:=fun {s}=>aJ rfl (.inr (.inl ⟨st,hl,e,rfl,rfl⟩))
   first | exact fin | exact ⟨fin,fin⟩ | exact ⟨⟨fin,fin⟩,fin⟩ | exact ⟨fin,fin,fin⟩
def pk (f:Nat→Int) (Gs:List (List Pd)):Nat→Int:=Gs.foldl dT f
def eN:List (List Pd)→Nat
 | []=>0
 | G::Gs=>G.length+eN Gs
def lH (kn:Nat) (kb:Nat→Bool) (cut:Nat):(Nat→Int)→List (List Pd)→Nat→Nat→Int
 | f,[],T=>f
 | f,G::Gs,T=>if T < G.length then fT (dT f (dO kn kb 0 (G.take T))) (G.getD T (0,zF)).1 cut (G.getD T (0,zF)).2 else lH kn kb cut (dT f G) Gs (T - G.length)
theorem I6: ∀ {A B:List (List Pd)},eN (A++B)=eN A+eN B
 | [],B=>by simp[eN]
 | G::A,B=>by simp only[List.cons_append,eN,I6];omega
theorem VU {f:Nat→Int} {A B:List (List Pd)}:pk f (A++B)=pk (pk f A) B:=List.foldl_append
theorem Bj {kn:Nat} {kb:Nat→Bool} {cut:Nat}: ∀ {A B:List (List Pd)} {f:Nat→Int} {T:Nat},lH kn kb cut f (A++B) T=if T < eN A then lH kn kb cut f A T else lH kn kb cut (pk f A) B (T - eN A)
 | [],B,f,T=>by simp[eN,pk]
 | G::A,B,f,T=>by
  have eT:eN (G::A)=G.length+eN A:=rfl
  have eO:pk f (G::A)=pk (dT f G) A:=rfl
  rw[eT,eO,List.cons_append]
  simp only[lH]
  by_cases h:T < G.length
  ·rw[if_pos h,if_pos h,if_pos (by omega)]
  ·rw[if_neg h,if_neg h,Bj]
   by_cases h2:T - G.length < eN A
   ·rw[if_pos h2,if_pos (by omega)]
   ·rw[if_neg h2,if_neg (by omega),show T - G.length - eN A=T - (G.length+eN A) by omega]
def nP (a n:Nat) (q:Int) (pf:Nat→Int):List (List Pd):=[fU a n pf,[(a,lC q n pf)]]
theorem uZ {a n:Nat} {q:Int} {pf:Nat→Int}:eN (nP a n q pf)=aT n+1:=by simp[nP,eN,mh]
theorem FB {f:Nat→Int} {a n:Nat} {q:Int} {pf:Nat→Int}:nF f a n q pf=pk f (nP a n q pf):=rfl
theorem I7 {f:Nat→Int} {a n kn cut T:Nat} {kb:Nat→Bool} {q:Int} {pf:Nat→Int} (h:T < aT n+1):lE f a n q pf kn kb cut T=lH kn kb cut f (nP a n q pf) T:=by
 unfold lE nP
 simp only[lH,mh]
 by_cases hT:T < aT n
 ·have e:(fU a n pf).getD T (0,zF)=(a+1+T,fun i=>iL n pf (T*64+i)):=by rw[List.getD_eq_getElem?_getD,IW hT];rfl
  rw[if_pos hT,if_pos hT,e]
 ·have e:T - aT n=0:=by omega
  rw[if_neg hT,if_neg hT,e,if_pos (by simp)]
  simp[dO,mS]
theorem rz {A:List Nat}:eN [zL A]=A.length:=by simp[eN,Ba]
theorem Ed {f:Nat→Int} {A:List Nat} {kn cut T:Nat} {kb:Nat→Bool} (h:T < A.length):kV f A kn kb cut T=lH kn kb cut f [zL A] T:=by
 unfold kV
 have ha:A[T]? =some A[T]:=List.getElem?_eq_getElem h
 have e:(zL A).getD T (0,zF)=(A[T],zF):=by rw[List.getD_eq_getElem?_getD,Xb ha];rfl
 simp only[lH,Ba]
 rw[if_pos h,e,List.getD_eq_getElem?_getD,ha]
 rfl
theorem vb {s:AS} {m t:Nat} {f:Nat→Int} {pc kc ps:List SV} {cnt:Int} {eD:Bool} (hd:AY s m f pc kc cnt (Sum.inl (.slice none 0 0))) (hb:s.box t=some ⟨eD,ps⟩) (ht:5≤t) (hp: ∀ x ∈ pc,SV.ok (fun n=>n=5) x) (hk:kc.all SV.plain=true) (hps:ps.all SV.plain=true):jr s (six t) (lk (Ca m f pc kc cnt ps)) [2,3,4]:=by
 refine lY (fun x hx=> ?_) fun n hn=> ?_
 ·have inj: ∀ a,a=2∨a=3∨a=4→ ∀ y ∈ Ca m f pc kc cnt ps,six t a=six t y.1→a=y.1:=fun a ha y hy e=>by
   have:y.1 < 7:=by
    simp only[Ca,bQ]at hy
    rcases hy with rfl | rfl | rfl | rfl | rfl | rfl | rfl<;>(simp only;omega)
   unfold six at e
   split at e<;>split at e<;>omega
  simp only[Ca,bQ]at hx
  rcases hx with rfl | rfl | rfl | rfl | rfl | rfl | rfl
  ·exact ⟨⟨_,hd.b0,fun h=>h⟩,fun h=>(by cases h)⟩
  ·exact ⟨⟨_,by rw[AZ hp];exact hd.b1,fun h=>h⟩,fun h=>(by cases h)⟩
  ·exact ⟨⟨_,hd.b2,fun h=>rfl⟩,fun h=>⟨(by decide:(2:Nat) ∈ [2,3,4]),inj 2 (by decide)⟩⟩
  ·exact ⟨⟨_,hd.b3,fun h=>rfl⟩,fun h=>⟨(by decide:(3:Nat) ∈ [2,3,4]),inj 3 (by decide)⟩⟩
  ·exact ⟨⟨_,by rw[au az];exact hd.b4,fun h=>rfl⟩,fun h=>⟨(by decide:(4:Nat) ∈ [2,3,4]),inj 4 (by decide)⟩⟩
  ·exact ⟨⟨_,by rw[au hk];exact hd.b5,fun h=>h⟩,fun h=>(by cases h)⟩
  ·exact ⟨⟨_,by rw[au hps];exact hb,fun h=>(by cases h)⟩,fun h=>(by cases h)⟩
 ·simp only[bQ]at hn
  rcases hn with rfl | rfl | rfl<;>exact ⟨_,rfl,rfl⟩
def ku (s:AS) (m:Nat) (f:Nat→Int) (cnt:Int):Nat→Option aI:=upd (upd (upd s.box 4 (some ⟨true,ai .u8 (64*m) f⟩)) 3 (some ⟨true,[Sum.inl (.int .i64 cnt)]⟩)) 2 (some ⟨true,[Sum.inl (.slice none 0 0)]⟩)
theorem SD {s:AS} {m t nm:Nat} {f:Nat→Int} {cnt:Int}:cL s (six t) 7 1 nm [2,3,4] (lk (dg m f cnt))=upd (ku s m f cnt) nm none:=by
 rw[gl]
 simp only[dg,ku,List.foldr_cons,List.foldr_nil,lk,Option.map_some,Option.map_none,aI.ren,List.map_cons,List.map_nil,SV.ren,fj,au az,Nat.reduceEqDiff,reduceIte,show six t 2=2 from rfl,show six t 3=3 from rfl,show six t 4=4 from rfl]
theorem Xh {s:AS} {m t nm:Nat} {f:Nat→Int} {cnt:Int}:cL s (six t) 7 0 nm [2,3,4] (lk (dg m f cnt))=ku s m f cnt:=by
 rw[oq]
 simp only[dg,ku,List.foldr_cons,List.foldr_nil,lk,Option.map_some,Option.map_none,aI.ren,List.map_cons,List.map_nil,SV.ren,fj,au az,Nat.reduceEqDiff,reduceIte,show six t 2=2 from rfl,show six t 3=3 from rfl,show six t 4=4 from rfl]
theorem N4 {a:Nat} {q:Int} {sv:SV} (h:SV.ok (fun n=>n < 7) sv): ∀ v ∈ [Ag (fP 0 1 2 3),I .i64 a,Ag (bJ q sv)],AV.ok (fun n=>n < 7) v:=fun v hv=>by
 simp only[bQ]at hv
 rcases hv with rfl | rfl | rfl
 ·exact dY fun n hn=>by omega
 ·trivial
 ·exact lW h
theorem SE {m a n kn:Nat} {kb:Nat→Bool} {f pf:Nat→Int} {ks:SV} {kc ps:List SV} {at_ cut cnt q:Int} {sv:SV} (hk:gU ks kn kb kc) (hl:cS 6 sv n pf ps) (hp:ps.all SV.plain=true) (hpf:eJ pf) (hm:m≤8192) (ha:a+aT n < m) (hn:n < 600000) (h0:0≤cnt) (h1:cnt < 900000) (hfl:bG at_ cnt (aT n+1)=false):
  bd Tryz.prog 26 [Ag (fP 0 1 2 3),I .i64 a,Ag (bJ q sv)] 7 (lk (Ca m f (cI at_ cut ks) kc cnt ps)) (fun v out=>v=Sum.inr []∧out=lk (dg m (nF f a n q pf) (cnt+(aT n:Nat)+1))):=
 ka Tryz.func26 rfl (by kernel_rfl) [7] [4,7] (by simp[Tryz.ntmps26]) Tryz.oQ (N4 (hl.ok (by decide))) ru (rv (fD hk) hk.c hp) hfl (Xa hk hl hp hpf hm ha hn h0 h1 _ rfl)
theorem abX {m a n kn:Nat} {kb:Nat→Bool} {f pf:Nat→Int} {ks:SV} {kc ps:List SV} {at_ cut cnt q:Int} {sv:SV} (hk:gU ks kn kb kc) (hl:cS 6 sv n pf ps) (hp:ps.all SV.plain=true) (hpf:eJ pf) (hm:m≤8192) (ha:a+aT n < m) (hn:n < 600000) (h0:0≤cnt) (h1:cnt < 900000) (hfl:bG at_ cnt (aT n+1)=true):
  yi Tryz.prog 26 [Ag (fP 0 1 2 3),I .i64 a,Ag (bJ q sv)] 7 (lk (Ca m f (cI at_ cut ks) kc cnt ps)) ga (fun out=>out=lk (dg m (lE f a n q pf kn kb (eE cut) (at_ - cnt - 1).toNat) at_)):=
 kd Tryz.func26 rfl (by kernel_rfl) [7] [4,7] (by simp[Tryz.ntmps26]) Tryz.oQ (N4 (hl.ok (by decide))) ru (rv (fD hk) hk.c hp) hfl (Xa hk hl hp hpf hm ha hn h0 h1 _ rfl)
theorem N5 {n c:Nat}: ∀ v ∈ [Ag (fP 0 1 2 3),Sl 6 0 n c],AV.ok (fun n=>n < 7) v:=fun v hv=>by
 simp only[bQ]at hv
 rcases hv with rfl | rfl
 ·exact dY fun n hn=>by omega
 ·exact (by decide:6 < 7)
theorem ZK {m c0 kn:Nat} {kb:Nat→Bool} {f:Nat→Int} {A:List Nat} {ks:SV} {kc ps:List SV} {at_ cut cnt:Int} (hk:gU ks kn kb kc) (hl:gb ps A c0) (hA: ∀ a ∈ A,a < m) (hne:A≠[]) (hm:m≤8192) (hn:A.length≤8192) (h0:0≤cnt) (h1:cnt < 900000) (hfl:bG at_ cnt A.length=false):
  bd Tryz.prog 70 [Ag (fP 0 1 2 3),Sl 6 0 A.length c0] 7 (lk (Ca m f (cI at_ cut ks) kc cnt ps)) (fun v out=>v=Sum.inr []∧out=lk (dg m (uk f A) (cnt+A.length))):=
 ka Tryz.func70 rfl (by kernel_rfl) [] [5] (by simp[Tryz.ntmps70]) Tryz.mK N5 ru (rv (fD hk) hk.c hl.plain) hfl (Sx hk hl hA hne hm hn h0 h1 _ rfl)
theorem ZL {m c0 kn:Nat} {kb:Nat→Bool} {f:Nat→Int} {A:List Nat} {ks:SV} {kc ps:List SV} {at_ cut cnt:Int} (hk:gU ks kn kb kc) (hl:gb ps A c0) (hA: ∀ a ∈ A,a < m) (hne:A≠[]) (hm:m≤8192) (hn:A.length≤8192) (h0:0≤cnt) (h1:cnt < 900000) (hfl:bG at_ cnt A.length=true):
  yi Tryz.prog 70 [Ag (fP 0 1 2 3),Sl 6 0 A.length c0] 7 (lk (Ca m f (cI at_ cut ks) kc cnt ps)) ga (fun out=>out=lk (dg m (kV f A kn kb (eE cut) (at_ - cnt - 1).toNat) at_)):=
 kd Tryz.func70 rfl (by kernel_rfl) [] [5] (by simp[Tryz.ntmps70]) Tryz.mK N5 ru (rv (fD hk) hk.c hl.plain) hfl (Sx hk hl hA hne hm hn h0 h1 _ rfl)
section
variable {s:AS} {nm m a n kn t:Nat} {kb:Nat→Bool} {f pf:Nat→Int} {ks sv:SV} {kc ps:List SV} {at_ cut cnt q:Int} {eD:Bool} {dst:Option Nat} {K:AS→Prop} {F:Exit→AS→Prop}
theorem Bk {sw:SV} (h:SV.ren (six t) sw=sv):([Ag (fP 0 1 2 3),I .i64 a,Ag (bJ q sv)]:List AV)=[Ag (fP 0 1 2 3),I .i64 a,Ag (bJ q sw)].map (AV.ren (six t)):=by
 simp only[List.map_cons,List.map_nil,nG,j8,jM,h]
theorem PV (hd:AY s m f (cI at_ cut ks) kc cnt (Sum.inl (.slice none 0 0))) (hk:gU ks kn kb kc) (hb:s.box t=some ⟨eD,ps⟩) (ht:5≤t) (hl:cS t sv n pf ps) (hp:ps.all SV.plain=true) (hpf:eJ pf) (hm:m≤8192) (ha:a+aT n < m) (hn:n < 600000) (h0:0≤cnt) (h1:cnt < 900000) (hfl:bG at_ cnt (aT n+1)=false) {x:Int} (hx:x=(a:Int))
  (hK:K (({ s with box:=upd (ku s m (nF f a n q pf) (cnt+(aT n:Nat)+1)) nm none }:AS).put dst (some (Sum.inr [])))):cq Tryz.prog nm 26 (some [Ag (fP 0 1 2 3),I .i64 x,Ag (bJ q sv)]) dst K s:=by
 subst hx
 obtain ⟨s0,g0,g1⟩:=hl.iW 6
 refine (SE (q:=q) (cut:=cut) (f:=f) hk g0 hp hpf hm ha hn h0 h1 hfl).wide.uP (six t) [2,3,4] (vb hd hb ht (fD hk) hk.c hp) (Bk (g1 (six t) rfl)) ?_
 rintro v out ⟨rfl,rfl⟩
 rw[SD]
 exact hK
theorem N6 (hd:AY s m f (cI at_ cut ks) kc cnt (Sum.inl (.slice none 0 0))) (hk:gU ks kn kb kc) (hb:s.box t=some ⟨eD,ps⟩) (ht:5≤t) (hl:cS t sv n pf ps) (hp:ps.all SV.plain=true) (hpf:eJ pf) (hm:m≤8192) (ha:a+aT n < m) (hn:n < 600000) (h0:0≤cnt) (h1:cnt < 900000) (hfl:bG at_ cnt (aT n+1)=true) {x:Int} (hx:x=(a:Int))
  (hK:F (.panic ga) { s with box:=ku s m (lE f a n q pf kn kb (eE cut) (at_ - cnt - 1).toNat) at_ }):fB Tryz.prog 26 (some [Ag (fP 0 1 2 3),I .i64 x,Ag (bJ q sv)]) F s:=by
 subst hx
 obtain ⟨s0,g0,g1⟩:=hl.iW 6
 refine (abX (q:=q) (cut:=cut) (f:=f) hk g0 hp hpf hm ha hn h0 h1 hfl).rq (six t) [2,3,4] (vb hd hb ht (fD hk) hk.c hp) (Bk (g1 (six t) rfl)) ?_
 rintro out rfl
 rw[Xh]
 exact hK
variable {A:List Nat} {c0:Nat}
theorem Bl (hd:AY s m f (cI at_ cut ks) kc cnt (Sum.inl (.slice none 0 0))) (hk:gU ks kn kb kc) (hb:s.box t=some ⟨eD,ps⟩) (ht:5≤t) (hl:gb ps A c0) (hA: ∀ a ∈ A,a < m) (hne:A≠[]) (hm:m≤8192) (hn:A.length≤8192) (h0:0≤cnt) (h1:cnt < 900000) (hfl:bG at_ cnt A.length=false)
  (hK:K (({ s with box:=upd (ku s m (uk f A) (cnt+A.length)) nm none }:AS).put dst (some (Sum.inr [])))):cq Tryz.prog nm 70 (some [Ag (fP 0 1 2 3),Sl t 0 A.length c0]) dst K s:=by
 refine (ZK (cut:=cut) (f:=f) hk hl hA hne hm hn h0 h1 hfl).wide.uP (six t) [2,3,4] (vb hd hb ht (fD hk) hk.c hl.plain) rfl ?_
 rintro v out ⟨rfl,rfl⟩
 rw[SD]
 exact hK
theorem I8 (hd:AY s m f (cI at_ cut ks) kc cnt (Sum.inl (.slice none 0 0))) (hk:gU ks kn kb kc) (hb:s.box t=some ⟨eD,ps⟩) (ht:5≤t) (hl:gb ps A c0) (hA: ∀ a ∈ A,a < m) (hne:A≠[]) (hm:m≤8192) (hn:A.length≤8192) (h0:0≤cnt) (h1:cnt < 900000) (hfl:bG at_ cnt A.length=true)
  (hK:F (.panic ga) { s with box:=ku s m (kV f A kn kb (eE cut) (at_ - cnt - 1).toNat) at_ }):fB Tryz.prog 70 (some [Ag (fP 0 1 2 3),Sl t 0 A.length c0]) F s:=by
 refine (ZL (cut:=cut) (f:=f) hk hl hA hne hm hn h0 h1 hfl).rq (six t) [2,3,4] (vb hd hb ht (fD hk) hk.c hl.plain) rfl ?_
 rintro out rfl
 rw[Xh]
 exact hK
end
section
variable {P:Program} [cn.Tables P] {s:AS} {nm:Nat} {K:AS→Prop} {dst:Option Nat} {ty:TypeId} {pos:String} {after:Array Edge}
theorem Bm {op:BinOp} {t t':TypeId} {x y:Operand}:sL P nm (some ⟨dst, .binOp op t x y t',ty,pos,after,none⟩) K s=cw P nm ⟨dst, .binOp op t x y t',ty,pos,after,none⟩ K s:=rfl
theorem vd {x:Operand} {i:Nat}:sL P nm (some ⟨dst, .extract x i,ty,pos,after,none⟩) K s=cw P nm ⟨dst, .extract x i,ty,pos,after,none⟩ K s:=rfl
end
theorem aH:type_of% @Bm∧type_of% @vd:=
 ⟨@Bm, @vd⟩
theorem ou {s:AS} {nm m:Nat} {f:Nat→Int} {pc nc kc:List SV} (hd:pb s (kU m f pc nc kc)) (h:iy pc nc kc) (hm:m≤1048576) {dst:Option Nat} {K:AS→Prop} (hk:K (({ s with box:=upd s.box nm none }:AS).put dst (some (I .i64 (m / 2:Nat))))):cq Tryz.prog nm 31 (some [Ag (fP 0 1 2 3)]) dst K s:=by
 refine (pd (f:=f) h hm).wide.av (fun n=>n) none (hd.fits kJ) (fC _) ?_
 rintro v out ⟨rfl,rfl⟩
 rw[fq]
 exact hk
theorem ve {s:AS} {nm t st n np:Nat} {q:Int} {sv:SV} {f:Nat→Int} {eD:Bool} {ps:List SV} (hb:s.box t=some ⟨eD,ps⟩) (hl:cS t sv np f ps) (hp:ps.all SV.plain=true) (hst:st≤100000) (hn:0 < n) (hn1:n≤100000) {nx:Nat} (hx:nx=st+n) {dst:Option Nat} {K:AS→Prop}
  (hk: ∀ c cs,gb cs (List.range' st n) c→K (({ s with box:=upd s.box nm (some ⟨true,cs⟩) }:AS).put dst (some (Sl nm 0 n c)))):cq Tryz.prog nm 87 (some [Ag (bA st nx q sv)]) dst K s:=by
 subst hx
 obtain ⟨s0,h0,h1⟩:=hl.iW 0
 refine (Sy (q:=q) h0 hp hst hn hn1).wide.av (fun _=>t) none (bZ hb hp) ?_ ?_
 ·simp only[List.map_cons,List.map_nil,l9,h1 (fun _=>t) rfl]
 ·rintro v out ⟨c,cs,g,rfl,rfl⟩
  rw[fq]
  have e1:(lk [(1,(⟨true,cs⟩:aI))] 1).map (aI.ren (aV (fun _=>t) 1 nm))=some ⟨true,cs⟩:=by simp[lk,aI.ren,au g.plain]
  have e2:AV.ren (aV (fun _=>t) 1 nm) (Sl 1 0 n c)=Sl nm 0 n c:=by
   show Sl (aV (fun _=>t) 1 nm 1) 0 _ _=_
   rw[nz]
  rw[e1,e2]
  exact hk c cs g
def Bn (m:Nat) (f:Nat→Int) (pc kc:List SV) (cnt:Int) (ps ls:List SV):List (Nat×aI):=
 [(0,⟨false,[Sum.inr (.inr (4,0,m,m))]⟩),(1,⟨false,pc⟩),(2,⟨true,[Sum.inl (.slice none 0 0)]⟩),(3,⟨true,[Sum.inl (.int .i64 cnt)]⟩),(4,⟨true,ai .u8 (64*m) f⟩),(5,⟨false,kc⟩),(6,⟨false,ps⟩),(7,⟨false,ls⟩)]
theorem I9 {m:Nat} {f:Nat→Int} {pc kc ps ls:List SV} {cnt:Int}: ∀ n,n < 8→ ∃ c,lk (Bn m f pc kc cnt ps ls) n=some c:=fun n hn=>by
 rcases (show n=0∨n=1∨n=2∨n=3∨n=4∨n=5∨n=6∨n=7 by omega) with rfl | rfl | rfl | rfl | rfl | rfl | rfl | rfl<;>exact ⟨_,rfl⟩
theorem I' {m:Nat} {f:Nat→Int} {pc kc ps ls:List SV} {cnt:Int} (hp: ∀ x ∈ pc,SV.ok (fun n=>n=5) x) (hk:kc.all SV.plain=true) (hs:ps.all SV.plain=true) (hls:ls.all SV.plain=true): ∀ n c,lk (Bn m f pc kc cnt ps ls) n=some c→n < 8∧ ∀ x ∈ c.cells,SV.ok (fun n=>n < 8) x:=fun n c hn=>by
 have h1:=bt _ _ _ hn
 simp only[Bn,bQ,Prod.mk.injEq]at h1
 rcases h1 with ⟨rfl,rfl⟩ | ⟨rfl,rfl⟩ | ⟨rfl,rfl⟩ | ⟨rfl,rfl⟩ | ⟨rfl,rfl⟩ | ⟨rfl,rfl⟩ | ⟨rfl,rfl⟩ | ⟨rfl,rfl⟩
 ·exact ⟨by decide,fun x hx=>by rw[List.mem_singleton]at hx;subst hx;exact ⟨(by decide:4 < 8),rfl⟩⟩
 ·exact ⟨by decide,fun x hx=>SV.aL (fun n hn=>by subst hn;decide) (hp x hx)⟩
 ·exact ⟨by decide,ao rfl⟩
 ·exact ⟨by decide,ao rfl⟩
 ·exact ⟨by decide,ao az⟩
 ·exact ⟨by decide,ao hk⟩
 ·exact ⟨by decide,ao hs⟩
 ·exact ⟨by decide,ao hls⟩
def wF (a n:Nat) (q:Int) (pf:Nat→Int) (st nn:Nat):List (List Pd):=nP a n q pf++[zL (List.range' st nn)]
theorem FC {a n:Nat} {q:Int} {pf:Nat→Int} {st nn:Nat}:eN (wF a n q pf st nn)=aT n+1+nn:=by rw[wF,I6,uZ,rz,List.length_range']
theorem Bo {ks:SV} {kn:Nat} {kb:Nat→Bool} {kc:List SV} {at_ cut cnt:Int} (hk:gU ks kn kb kc):iy (cI at_ cut ks) [Sum.inl (.int .i64 cnt)] kc:=⟨fD hk,rfl,hk.c⟩
theorem SF {m a n kn st nn np:Nat} {kb:Nat→Bool} {f pf lf:Nat→Int} {ks:SV} {kc ps ls:List SV} {at_ cut cnt q q0:Int} {sv sw:SV} (hk:gU ks kn kb kc) (hl:cS 6 sv n pf ps) (hp:ps.all SV.plain=true) (hpf:eJ pf) (rN:cS 7 sw np lf ls) (hls:ls.all SV.plain=true) (hm:m≤8192) (ha:a+aT n < m) (hn:n < 600000) (h0:0≤cnt) (h1:cnt < 800000)
  (hst:((m / 2:Nat):Int) - (st:Int)=(a:Int)) (Nz:0 < nn) (UU:st+nn≤m):
  ∀ c,Tryz.f69.body=some c→kT Tryz.prog [1,2] [1,2] c (eX Tryz.prog [] 8 (bG at_ cnt (aT n+1+nn)) ga (fun v out=>v=Sum.inr []∧out=lk (dg m (pk f (wF a n q pf st nn)) (cnt+(aT n:Nat)+1+nn)))
   (fun out=>out=lk (dg m (lH kn kb (eE cut) f (wF a n q pf st nn) (at_ - cnt - 1).toNat) at_))) (cn.start [Ag (fP 0 1 2 3),Ag (bA st (st+nn) q0 sw),Ag (bJ q sv)] (lk (Bn m f (cI at_ cut ks) kc cnt ps ls)) 8):=by
 intro c hc
 cases hc
 have jT:List.take 2 (bJ q sv)=bJ q sv:=rfl
 have FD:List.take 4 (bA st (st+nn) q0 sw)=bA st (st+nn) q0 sw:=rfl
 have w1:IntKind.i64.wrap (((m / 2:Nat):Int) - (st:Int))=(a:Int):=by rw[wrap_i64 _ (by omega) (by omega)];omega
 have dk:=Bo (at_:=at_) (cut:=cut) (cnt:=cnt) hk
 have Ja:(bA st (st+nn) q0 sw)[0]? =some (Sum.inl (.int .i64 (st:Int))):=rfl
 have Zt:aT n≤9376:=by unfold aT;omega
 simp only[Bn,jT,FD,fZ,kg,aH,bH,seval]
 by_cases YS:bG at_ cnt (aT n+1)=true
 ·have hb:=of_decide_eq_true YS
  refine .inr ⟨by kernel_rfl, ?_⟩
  simp only[aH,bH,seval]
  refine eW (by kernel_rfl) [0,1,3,4,6] [2,5] [] [] [8,9,10] [6,7,9,10,12,8,11] (by kernel_rfl) (by kernel_rfl) (by kernel_rfl) ?_
  simp only[jT,FD,fZ,kg,Ja,aH,bH,seval]
  refine ou (f:=f) (m:=m) (j9 (m:=m) (f:=f) (pc:=cI at_ cut ks) (nc:=[Sum.inl (.int .i64 cnt)]) (kc:=kc) (r0:=false) (r1:=false) (r2:=true) (r3:=true) (r4:=true) (r5:=false) (by simp only[aq,ay,ae,vR,seval]) (by simp only[aq,ay,ae,vR,seval]) (by simp only[aq,ay,ae,vR,seval]) (by simp only[aq,ay,ae,vR,seval]) (by simp only[aq,ay,ae,vR,seval]) (by simp only[aq,ay,ae,vR,seval])) dk (by omega) ?_
  simp only[jT,FD,fZ,kg,Ja,w1,aH,bH,seval]
  refine N6 (kc:=kc) (cut:=cut) (at_:=at_) (m:=m) (f:=f) (cnt:=cnt) (t:=6) (eD:=false) (ps:=ps) ⟨?_, ?_, ?_, ?_, ?_, ?_⟩ hk ?_ (by decide) hl hp hpf hm ha hn h0 (by omega) YS rfl ?_<;>try (simp only[aq,ay,ae,vR,seval];done)
  simp only[fI]
  unfold eX
  rw[if_pos (show bG at_ cnt (aT n+1+nn)=true from decide_eq_true (by omega))]
  have e:lH kn kb (eE cut) f (wF a n q pf st nn) (at_ - cnt - 1).toNat=lE f a n q pf kn kb (eE cut) (at_ - cnt - 1).toNat:=by
   rw[wF,Bj,uZ,if_pos (by omega),I7 (by omega)]
  rw[e]
  exact yy (by decide) (by simp only[ku,ae,vR,seval]) (by simp only[ku,ae,vR,seval]) (by simp only[ku,ae,vR,seval])
 ·refine .inl ?_
  refine eW (by kernel_rfl) [0,1,3,4,6] [2,5,7] [] [] [8,9,10] [6,7,9,10,12,8,11,13] (by kernel_rfl) (by kernel_rfl) (by kernel_rfl) ?_
  simp only[jT,FD,fZ,kg,Ja,aH,bH,seval]
  refine ou (f:=f) (m:=m) (j9 (m:=m) (f:=f) (pc:=cI at_ cut ks) (nc:=[Sum.inl (.int .i64 cnt)]) (kc:=kc) (r0:=false) (r1:=false) (r2:=true) (r3:=true) (r4:=true) (r5:=false) (by simp only[aq,ay,ae,vR,seval]) (by simp only[aq,ay,ae,vR,seval]) (by simp only[aq,ay,ae,vR,seval]) (by simp only[aq,ay,ae,vR,seval]) (by simp only[aq,ay,ae,vR,seval]) (by simp only[aq,ay,ae,vR,seval])) dk (by omega) ?_
  simp only[jT,FD,fZ,kg,Ja,w1,aH,bH,seval]
  have abY:bG at_ cnt (aT n+1)=false:=by simpa using YS
  have hb1: ¬ (cnt < at_∧at_≤cnt+((aT n+1:Nat):Int)):=of_decide_eq_false abY
  refine PV (kc:=kc) (cut:=cut) (at_:=at_) (m:=m) (f:=f) (cnt:=cnt) (t:=6) (eD:=false) (ps:=ps) ⟨?_, ?_, ?_, ?_, ?_, ?_⟩ hk ?_ (by decide) hl hp hpf hm ha hn h0 (by omega) abY rfl ?_<;>try (simp only[aq,ay,ae,vR,seval];done)
  simp only[ku,aH,bH,seval]
  have dk2:=Bo (at_:=at_) (cut:=cut) (cnt:=cnt+(aT n:Nat)+1) hk
  have hr1:(List.range' st nn).length=nn:=List.length_range'
  have hA: ∀ b ∈ List.range' st nn,b < m:=fun b hb=>by rw[List.mem_range'_1]at hb;omega
  have hne:List.range' st nn≠[]:=fun h=>by rw[h]at hr1;simp at hr1;omega
  by_cases QI:bG at_ (cnt+(aT n:Nat)+1) nn=true
  ·have hb2:=of_decide_eq_true QI
   refine .inr ⟨by kernel_rfl, ?_⟩
   simp only[ku,aH,bH,seval]
   refine eW (by kernel_rfl) [0,1] [2] [] [] [8,9] [14,15,16] (by kernel_rfl) (by kernel_rfl) (by kernel_rfl) ?_
   simp only[jT,FD,fZ,kg,Ja,aH,bH,seval]
   refine ve (t:=7) (eD:=false) (by simp only[aq,ay,ae,vR,seval]) rN hls (by omega) Nz (by omega) rfl fun c0 cs0 k1=> ?_
   simp only[jT,FD,fZ,kg,Ja,aH,bH,seval]
   have e3:Sl 31 0 nn c0=Sl 31 0 (List.range' st nn).length c0:=by rw[hr1]
   rw[e3]
   refine I8 (kc:=kc) (cut:=cut) (at_:=at_) (m:=m) (f:=nF f a n q pf) (cnt:=cnt+(aT n:Nat)+1) (t:=31) (eD:=true) (ps:=cs0) ⟨?_, ?_, ?_, ?_, ?_, ?_⟩ hk ?_ (by decide) k1 hA hne hm (by rw[hr1];omega) (by omega) (by omega) (by rw[hr1];exact QI) ?_<;>try (simp only[ku,aq,ay,ae,vR,seval];done)
   unfold eX
   rw[if_pos (show bG at_ cnt (aT n+1+nn)=true from decide_eq_true (by omega))]
   have e:lH kn kb (eE cut) f (wF a n q pf st nn) (at_ - cnt - 1).toNat=kV (nF f a n q pf) (List.range' st nn) kn kb (eE cut) (at_ - (cnt+(aT n:Nat)+1) - 1).toNat:=by
    rw[wF,Bj,uZ,if_neg (by omega),FB,Ed (by rw[hr1];omega)]
    congr 1
    omega
   rw[e]
   exact yy (by decide) (by simp only[ku,ae,vR,seval]) (by simp only[ku,ae,vR,seval]) (by simp only[ku,ae,vR,seval])
  ·have abZ:bG at_ (cnt+(aT n:Nat)+1) nn=false:=by simpa using QI
   have hb2: ¬ (cnt+(aT n:Nat)+1 < at_∧at_≤cnt+(aT n:Nat)+1+(nn:Int)):=of_decide_eq_false abZ
   refine .inl ?_
   refine eW (by kernel_rfl) [0,1] [2,3] [] [] [8,9] [14,15,16,17] (by kernel_rfl) (by kernel_rfl) (by kernel_rfl) ?_
   simp only[ku,jT,FD,fZ,kg,Ja,aH,bH,seval]
   refine ve (t:=7) (eD:=false) (by simp only[aq,ay,ae,vR,seval]) rN hls (by omega) Nz (by omega) rfl fun c0 cs0 k1=> ?_
   simp only[jT,FD,fZ,kg,Ja,aH,bH,seval]
   have e3:Sl 31 0 nn c0=Sl 31 0 (List.range' st nn).length c0:=by rw[hr1]
   rw[e3]
   refine Bl (kc:=kc) (cut:=cut) (at_:=at_) (m:=m) (f:=nF f a n q pf) (cnt:=cnt+(aT n:Nat)+1) (t:=31) (eD:=true) (ps:=cs0) ⟨?_, ?_, ?_, ?_, ?_, ?_⟩ hk ?_ (by decide) k1 hA hne hm (by rw[hr1];omega) (by omega) (by omega) (by rw[hr1];exact abZ) ?_<;>try (simp only[ku,aq,ay,ae,vR,seval];done)
   simp only[ku,aH,bH,seval]
   unfold eX
   rw[if_neg (fun h=>by have h9:=of_decide_eq_true h;omega)]
   have e:pk f (wF a n q pf st nn)=uk (nF f a n q pf) (List.range' st nn):=by rw[wF,VU];rfl
   rw[e, ← hr1]
   simp only[hr1]
   refine Fu (by rfl) (by decide) ?_ ?_ ?_<;>(simp only[hr1,ae,vR,seval];done)
end Go.Proofs.YtaeagfdnfjenlaaGreatDoor
