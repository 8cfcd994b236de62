/-
  Two endings by a flag; slices of places; a disk's boxes and one that waits, by another name.
-/
import Derived.Test.YtaeagfdnfjenlaaGreatDoorVcgDk
set_option linter.unusedSimpArgs false
set_option linter.unusedVariables false
namespace Go.cn
section
variable {P:Program} [Tables P]
theorem ka {f:Nat} {fn:Func} {c:Code} (hf:P.funcs[f]? =some fn) (hb:fn.body=some c) (hok:codeOk fn.ntmps c=true) (wd pz:List Nat) {args:List AV} {k:Nat} {ins:Nat→Option aI}
  (hlen:args.length≤fn.ntmps) (hc:ak P f=true) (hargs: ∀ v ∈ args,AV.ok (fun n=>n < k) v) (hall: ∀ n,n < k→ ∃ b,ins n=some b) (fO: ∀ n b,ins n=some b→n < k∧ ∀ x ∈ b.cells,SV.ok (fun n=>n < k) x)
  {flag:Bool} {ch:List PanicEntry} {Post:AV→(Nat→Option aI)→Prop} {uT:(Nat→Option aI)→Prop} (hfl:flag=false) (hv:kT P wd pz c (eX P fn.results.toList k flag ch Post uT) (start args ins k)):bd P f args k ins Post:=by
 have e:eX P fn.results.toList k flag ch Post uT=kA P fn.results.toList (m8 k Post):=by
  funext e s
  unfold eX
  rw[if_neg (by rw[hfl];decide)]
 rw[e]at hv
 exact cy hf hb hok wd pz hlen hc hargs hall fO hv
theorem kd {f:Nat} {fn:Func} {c:Code} (hf:P.funcs[f]? =some fn) (hb:fn.body=some c) (hok:codeOk fn.ntmps c=true) (wd pz:List Nat) {args:List AV} {k:Nat} {ins:Nat→Option aI}
  (hlen:args.length≤fn.ntmps) (hc:ak P f=true) (hargs: ∀ v ∈ args,AV.ok (fun n=>n < k) v) (hall: ∀ n,n < k→ ∃ b,ins n=some b) (fO: ∀ n b,ins n=some b→n < k∧ ∀ x ∈ b.cells,SV.ok (fun n=>n < k) x)
  {flag:Bool} {ch:List PanicEntry} {Post:AV→(Nat→Option aI)→Prop} {uT:(Nat→Option aI)→Prop} (hfl:flag=true) (hv:kT P wd pz c (eX P fn.results.toList k flag ch Post uT) (start args ins k)):yi P f args k ins ch uT:=by
 have e:eX P fn.results.toList k flag ch Post uT=Fh k ch uT:=by
  funext e s
  unfold eX
  rw[if_pos hfl]
 rw[e]at hv
 exact xL hf hb hok wd pz hlen hc hargs hall fO hv
end
def Ln (A:List Nat):List SV:=A.map fun (a:Nat)=>Sum.inl (.int .i64 (a:Int))
theorem yz {A:List Nat}:(Ln A).length=A.length:=by simp[Ln]
theorem PS {A:List Nat}:(Ln A).all SV.plain=true:=by simp[Ln,List.all_eq_true];intro x hx;rfl
theorem VO {A B:List Nat}:Ln (A++B)=Ln A++Ln B:=List.map_append
structure gb (cs:List SV) (A:List Nat) (c:Nat):Prop where
 ex: ∃ tail,cs=Ln A++tail∧tail.length=(c - A.length)*1∧tail.all SV.plain=true
 room:A.length≤c
theorem gb.plain {cs:List SV} {A:List Nat} {c:Nat} (h:gb cs A c):cs.all SV.plain=true:=by
 obtain ⟨⟨tail,rfl,h1,h2⟩,h3⟩:=h
 rw[List.all_append,PS,h2];rfl
theorem gb.len {cs:List SV} {A:List Nat} {c:Nat} (h:gb cs A c):cs.length=c:=by
 obtain ⟨⟨tail,rfl,h1,h2⟩,h3⟩:=h
 rw[List.length_append,yz,h1]
 omega
theorem gb.at_ {cs:List SV} {A:List Nat} {c:Nat} (h:gb cs A c) {j:Nat} {u:SV} (hj:(Ln A)[j]? =some u):cs[j]? =some u:=by
 obtain ⟨⟨tail,rfl,h1,h2⟩,h3⟩:=h
 rw[List.getElem?_append_left (List.getElem?_eq_some_iff.1 hj).1]
 exact hj
theorem gb.get {cs:List SV} {A:List Nat} {c:Nat} (h:gb cs A c) {j a:Nat} (hj:A[j]? =some a):cs[j]? =some (Sum.inl (.int .i64 (a:Int))):=h.at_ (by simp[Ln,hj])
section
variable {P:Program} [Tables P] {s:AS} {nm:Nat} {ty:TypeId} {ct:Array Bool} {dst:Option Nat} {K:AS→Prop}
theorem wC {t mA u a:Nat} {eD:Bool} (hk:pT P t=some ([Value.int .i64 0],1,mA)) (hx:uB P t=some (none,1)) (hb:s.box u=some ⟨eD,[Sum.inl (.int .i64 (a:Int))]⟩) (hby:mA≤140737488355328)
  (hK: ∀ c' cs',gb cs' [a] c'→K (({ s with box:=upd s.box nm (some ⟨true,cs'⟩) }:AS).put dst (some (Sl nm 0 1 c')))):
  cp P nm .append #[t,t] ty ct (some [V (.slice none 0 0),Sl u 0 1 1]) dst K s:=by
 refine (j0 (news:=Ln [a]) hk hx rfl (by decide) rfl (.inl ⟨u,0,1,_,rfl,hb,by simp[yz],fun j u h=>by simpa[Ln] using h,by simp⟩) (by decide) (by omega) (fun h=>by cases h) fun _ c' tail h1 h2 h3=> ?_).plain
 exact hK c' _ ⟨⟨tail,rfl,h2,h3⟩,h1⟩
theorem A9 {t mA b u c a:Nat} {eD:Bool} {cs:List SV} {A:List Nat} (hk:pT P t=some ([Value.int .i64 0],1,mA)) (hx:uB P t=some (none,1)) (hg:gb cs A c) (hb:s.box b=some ⟨true,cs⟩) (hu:s.box u=some ⟨eD,[Sum.inl (.int .i64 (a:Int))]⟩) (hne:b≠u)
  (hl:A.length < 1048576) (hby:mA≤1048576)
  (hK: ∀ c' cs',gb cs' (A++[a]) c'→K (({ s with box:=upd (upd s.box b none) nm (some ⟨true,cs'⟩) }:AS).put dst (some (Sl nm 0 (A.length+1) c')))):
  cp P nm .append #[t,t] ty ct (some [Sl b 0 A.length c,Sl u 0 1 1]) dst K s:=by
 refine (sG (olds:=Ln A) (news:=Ln [a]) hk hx rfl (by decide) rfl hb (by rw[hg.len,Nat.zero_add,Nat.mul_one]) hg.room (by rw[yz,Nat.mul_one]) (fun j u h=>by rw[Nat.zero_add];exact hg.at_ h) hg.plain (.inl ⟨u,0,1,_,rfl,hu,by simp[yz],fun j u h=>by simpa[Ln] using h,by simpa using hne⟩) (by omega) ?_ fun c' tail h1 h2 h3=> ?_).plain
 ·have:(A.length+1)*mA≤1048576*1048576:=Nat.mul_le_mul (by omega) hby
  omega
 ·exact hK c' _ ⟨⟨tail,by rw[VO],by rw[h2,List.length_append,List.length_singleton],h3⟩,by rw[List.length_append,List.length_singleton];exact h1⟩
end
theorem qH {q:Nat} {l:List SV} (h: ∀ x ∈ l,SV.ok (fun n=>n < 60) x):l.map (SV.ren (upd (fun n=>n) 60 q))=l:=by
 conv=>rhs;rw[← List.map_id l]
 exact List.map_congr_left fun x hx=>SV.je (SV.br (fun n hn=>bh _ _ _ _ (by omega)) (h x hx).1)
def J6 (m:Nat) (f:Nat→Int) (pc kc:List SV) (cnt:Int) (k c:Nat) (es:List SV) (X:List (Nat×aI)):List (Nat×aI):=
 (60,⟨true,es⟩)::(0,⟨false,[Sum.inr (.inr (4,0,m,m))]⟩)::(1,⟨false,pc⟩)::(2,⟨true,[Sum.inr (.inr (60,0,k,c))]⟩)::(3,⟨true,[Sum.inl (.int .i64 cnt)]⟩)::(4,⟨true,ai .u8 (64*m) f⟩)::(5,⟨false,kc⟩)::X
theorem Eb {s:AS} {m' m k c q:Nat} {f:Nat→Int} {pc kc es:List SV} {cnt:Int} {E:List (Nat×AV)} {X:List (Nat×aI)} (hm':m'≤60) (hq:61≤q) (he: ∀ x ∈ E,s.env x.1=some x.2) (ZC: ∀ x ∈ E,AV.ren (upd (fun n=>n) 60 q) x.2=x.2∧AV.ok (fun n=>n < 61) x.2)
  (hp: ∀ x ∈ pc,SV.ok (fun n=>n < 60) x) (hk:kc.all SV.plain=true) (PQ:es.all SV.plain=true) (hX: ∀ x ∈ X,s.box x.1=some x.2) (Qz: ∀ x ∈ X,(5 < x.1∧x.1 < 60)∧ ∀ y ∈ x.2.cells,SV.ok (fun n=>n < 60) y)
  (h0:s.box 0=some ⟨false,[Sum.inr (.inr (4,0,m,m))]⟩) (h1:s.box 1=some ⟨false,pc⟩) (h2:s.box 2=some ⟨true,[Sum.inr (.inr (q,0,k,c))]⟩) (h3:s.box 3=some ⟨true,[Sum.inl (.int .i64 cnt)]⟩) (h4:s.box 4=some ⟨true,ai .u8 (64*m) f⟩) (h5:s.box 5=some ⟨false,kc⟩) (Lm:s.box q=some ⟨true,es⟩):
  ll m' s (pF E (J6 m f pc kc cnt k c es X) 61):=by
 have hlt: ∀ y ∈ J6 m f pc kc cnt k c es X,y.1≤60:=fun y hy=>by
  simp only[J6,List.mem_cons]at hy
  rcases hy with rfl | rfl | rfl | rfl | rfl | rfl | rfl | hy
  any_goals (simp only;omega)
  exact Nat.le_of_lt (Qz y hy).1.2
 have hinj: ∀ n,n≤60→ ∀ y ∈ J6 m f pc kc cnt k c es X,upd (fun n=>n) 60 q n=upd (fun n=>n) 60 q y.1→n=y.1:=fun n hn y hy e=>by
  have hy':=hlt y hy
  simp only[upd]at e
  split at e<;>split at e<;>omega
 have big: ∀ {l:List SV},(∀ x ∈ l,SV.ok (fun n=>n < 60) x)→ ∀ x ∈ l,SV.ok (fun n=>n < 61) x:=fun h x hx=>SV.aL (fun n hn=>by omega) (h x hx)
 refine yv (upd (fun n=>n) 60 q) (fun n hn=>bh _ _ _ _ (by omega)) (fun x hx=> ?_) fun x hx=> ?_
 ·obtain ⟨e1,e2⟩:=ZC x hx
  exact ⟨by rw[e1];exact he x hx,e2⟩
 ·have hx':=hx
  simp only[J6,List.mem_cons]at hx
  rcases hx with rfl | rfl | rfl | rfl | rfl | rfl | rfl | hx
  ·exact ⟨⟨true,by rw[au PQ];simpa[upd] using Lm,fun h=>h⟩,(by decide:60 < 61),ao PQ,fun _=>hinj 60 (by decide)⟩
  ·exact ⟨⟨false,h0,fun h=>h⟩,(by decide:0 < 61),fun y hy=>by rw[List.mem_singleton]at hy;subst hy;exact ⟨(by decide:4 < 61),rfl⟩,fun h=>(by cases h)⟩
  ·exact ⟨⟨false,by rw[qH hp];exact h1,fun h=>h⟩,(by decide:1 < 61),big hp,fun h=>(by cases h)⟩
  ·exact ⟨⟨true,h2,fun h=>h⟩,(by decide:2 < 61),fun y hy=>by rw[List.mem_singleton]at hy;subst hy;exact ⟨(by decide:60 < 61),rfl⟩,fun _=>hinj 2 (by decide)⟩
  ·exact ⟨⟨true,h3,fun h=>h⟩,(by decide:3 < 61),ao rfl,fun _=>hinj 3 (by decide)⟩
  ·exact ⟨⟨true,by rw[au az];exact h4,fun h=>h⟩,(by decide:4 < 61),ao az,fun _=>hinj 4 (by decide)⟩
  ·exact ⟨⟨false,by rw[au hk];exact h5,fun h=>h⟩,(by decide:5 < 61),ao hk,fun h=>(by cases h)⟩
  ·obtain ⟨⟨a1,a2⟩,a3⟩:=Qz x hx
   have e:upd (fun n=>n) 60 q x.1=x.1:=bh _ _ _ _ (by omega)
   exact ⟨⟨x.2.rw,by rw[e,qH a3];exact hX x hx,fun h=>h⟩,by omega,big a3,fun _=>hinj x.1 (by omega)⟩
theorem wD {s:AS} {m' q:Nat} {es:List SV} {E:List (Nat×AV)} {X:List (Nat×aI)} (hm':m'≤60) (hq:61≤q) (he: ∀ x ∈ E,s.env x.1=some (AV.ren (upd (fun n=>n) 60 q) x.2)) (ZC: ∀ x ∈ E,AV.ok (fun n=>n < 61) x.2)
  (PQ:es.all SV.plain=true) (hX: ∀ x ∈ X,s.box x.1=some x.2) (Qz: ∀ x ∈ X,x.1 < 60∧ ∀ y ∈ x.2.cells,SV.ok (fun n=>n < 60) y) (Lm:s.box q=some ⟨true,es⟩):
  ll m' s (pF E ((60,⟨true,es⟩)::X) 61):=by
 have hlt: ∀ y ∈ (60,(⟨true,es⟩:aI))::X,y.1≤60:=fun y hy=>by
  rcases List.mem_cons.1 hy with rfl | hy
  ·exact Nat.le_refl _
  ·exact Nat.le_of_lt (Qz y hy).1
 have hinj: ∀ n,n≤60→ ∀ y ∈ (60,(⟨true,es⟩:aI))::X,upd (fun n=>n) 60 q n=upd (fun n=>n) 60 q y.1→n=y.1:=fun n hn y hy e=>by
  have hy':=hlt y hy
  simp only[upd]at e
  split at e<;>split at e<;>omega
 refine yv (upd (fun n=>n) 60 q) (fun n hn=>bh _ _ _ _ (by omega)) (fun x hx=>⟨he x hx,ZC x hx⟩) fun x hx=> ?_
 rcases List.mem_cons.1 hx with rfl | hx
 ·exact ⟨⟨true,by rw[au PQ];simpa[upd] using Lm,fun h=>h⟩,(by decide:60 < 61),ao PQ,fun _=>hinj 60 (by decide)⟩
 ·obtain ⟨a2,a3⟩:=Qz x hx
  have e:upd (fun n=>n) 60 q x.1=x.1:=bh _ _ _ _ (by omega)
  exact ⟨⟨x.2.rw,by rw[e,qH a3];exact hX x hx,fun h=>h⟩,by omega,fun y hy=>SV.aL (fun n hn=>by omega) (a3 y hy),fun _=>hinj x.1 (by omega)⟩
theorem Lp {s:AS} {m' q:Nat} {es:List SV} {E:List (Nat×AV)} {X:List (Nat×aI)} (hm':m'≤60) (hq:61≤q) (he: ∀ x ∈ E,s.env x.1=some (AV.ren (upd (fun n=>n) 60 q) x.2)) (ZC: ∀ x ∈ E,AV.ok (fun n=>n < 61) x.2)
  (PQ:es.all SV.plain=true) (hX: ∀ x ∈ X, ∃ rw',s.box x.1=some ⟨rw',x.2.cells.map (SV.ren (upd (fun n=>n) 60 q))⟩∧(x.2.rw=true→rw'=true)) (Qz: ∀ x ∈ X,x.1 < 60∧ ∀ y ∈ x.2.cells,SV.ok (fun n=>n < 61) y) (Lm:s.box q=some ⟨true,es⟩):
  ll m' s (pF E ((60,⟨true,es⟩)::X) 61):=by
 have hlt: ∀ y ∈ (60,(⟨true,es⟩:aI))::X,y.1≤60:=fun y hy=>by
  rcases List.mem_cons.1 hy with rfl | hy
  ·exact Nat.le_refl _
  ·exact Nat.le_of_lt (Qz y hy).1
 have hinj: ∀ n,n≤60→ ∀ y ∈ (60,(⟨true,es⟩:aI))::X,upd (fun n=>n) 60 q n=upd (fun n=>n) 60 q y.1→n=y.1:=fun n hn y hy e=>by
  have hy':=hlt y hy
  simp only[upd]at e
  split at e<;>split at e<;>omega
 refine yv (upd (fun n=>n) 60 q) (fun n hn=>bh _ _ _ _ (by omega)) (fun x hx=>⟨he x hx,ZC x hx⟩) fun x hx=> ?_
 rcases List.mem_cons.1 hx with rfl | hx
 ·exact ⟨⟨true,by rw[au PQ];simpa[upd] using Lm,fun h=>h⟩,(by decide:60 < 61),ao PQ,fun _=>hinj 60 (by decide)⟩
 ·obtain ⟨a2,a3⟩:=Qz x hx
  have e:upd (fun n=>n) 60 q x.1=x.1:=bh _ _ _ _ (by omega)
  exact ⟨by rw[e];exact hX x hx,by omega,a3,fun _=>hinj x.1 (by omega)⟩
end Go.cn
