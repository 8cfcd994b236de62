/-
  Two endings by a flag; slices of places; a disk's boxes and one that waits, by another name.
-/
import Derived.Test.YtkaamnnjeandlaaDoorVcgDk
set_option linter.unusedSimpArgs false
set_option linter.unusedVariables false
namespace Go.bM
section
variable {P:Program} [Tables P]
theorem iL {f:Nat} {fn:Func} {c:Code} (hf:P.funcs[f]? =some fn) (hb:fn.body=some c) (hok:codeOk fn.ntmps c=true) (wd pz:List Nat) {args:List AV} {k:Nat} {ins:Nat→Option aG}
  (hlen:args.length≤fn.ntmps) (hc:au P f=true) (hargs: ∀ v ∈ args,AV.ok (fun n=>n < k) v) (hall: ∀ n,n < k→ ∃ b,ins n=some b) (du: ∀ n b,ins n=some b→n < k∧ ∀ x ∈ b.cells,SV.ok (fun n=>n < k) x)
  {flag:Bool} {ch:List PanicEntry} {Post:AV→(Nat→Option aG)→Prop} {rq:(Nat→Option aG)→Prop} (hfl:flag=false) (hv:iX P wd pz c (dw P fn.results.toList k flag ch Post rq) (start args ins k)):bC P f args k ins Post:=by
 have e:dw P fn.results.toList k flag ch Post rq=jX P fn.results.toList (nA k Post):=by
  funext e s
  unfold dw
  rw[if_neg (by rw[hfl];decide)]
 rw[e]at hv
 exact bO hf hb hok wd pz hlen hc hargs hall du hv
theorem iM {f:Nat} {fn:Func} {c:Code} (hf:P.funcs[f]? =some fn) (hb:fn.body=some c) (hok:codeOk fn.ntmps c=true) (wd pz:List Nat) {args:List AV} {k:Nat} {ins:Nat→Option aG}
  (hlen:args.length≤fn.ntmps) (hc:au P f=true) (hargs: ∀ v ∈ args,AV.ok (fun n=>n < k) v) (hall: ∀ n,n < k→ ∃ b,ins n=some b) (du: ∀ n b,ins n=some b→n < k∧ ∀ x ∈ b.cells,SV.ok (fun n=>n < k) x)
  {flag:Bool} {ch:List PanicEntry} {Post:AV→(Nat→Option aG)→Prop} {rq:(Nat→Option aG)→Prop} (hfl:flag=true) (hv:iX P wd pz c (dw P fn.results.toList k flag ch Post rq) (start args ins k)):ud P f args k ins ch rq:=by
 have e:dw P fn.results.toList k flag ch Post rq=Bd k ch rq:=by
  funext e s
  unfold dw
  rw[if_pos hfl]
 rw[e]at hv
 exact tJ hf hb hok wd pz hlen hc hargs hall du hv
end
def Gt (A:List Nat):List SV:=A.map fun (a:Nat)=>Sum.inl (.int .i64 (a:Int))
theorem ux {A:List Nat}:(Gt A).length=A.length:=by simp[Gt]
theorem Kn {A:List Nat}:(Gt A).all SV.plain=true:=by simp[Gt,List.all_eq_true];intro x hx;rfl
theorem Pj {A B:List Nat}:Gt (A++B)=Gt A++Gt B:=List.map_append
structure eU (cs:List SV) (A:List Nat) (c:Nat):Prop where
 ex: ∃ tail,cs=Gt A++tail∧tail.length=(c - A.length)*1∧tail.all SV.plain=true
 room:A.length≤c
theorem eU.plain {cs:List SV} {A:List Nat} {c:Nat} (h:eU cs A c):cs.all SV.plain=true:=by
 obtain ⟨⟨tail,rfl,h1,h2⟩,h3⟩:=h
 rw[List.all_append,Kn,h2];rfl
theorem eU.len {cs:List SV} {A:List Nat} {c:Nat} (h:eU cs A c):cs.length=c:=by
 obtain ⟨⟨tail,rfl,h1,h2⟩,h3⟩:=h
 rw[List.length_append,ux,h1]
 omega
theorem eU.at_ {cs:List SV} {A:List Nat} {c:Nat} (h:eU cs A c) {j:Nat} {u:SV} (hj:(Gt A)[j]? =some u):cs[j]? =some u:=by
 obtain ⟨⟨tail,rfl,h1,h2⟩,h3⟩:=h
 rw[List.getElem?_append_left (List.getElem?_eq_some_iff.1 hj).1]
 exact hj
theorem eU.get {cs:List SV} {A:List Nat} {c:Nat} (h:eU cs A c) {j a:Nat} (hj:A[j]? =some a):cs[j]? =some (Sum.inl (.int .i64 (a:Int))):=h.at_ (by simp[Gt,hj])
section
variable {P:Program} [Tables P] {s:AS} {nm:Nat} {ty:TypeId} {ct:Array Bool} {dst:Option Nat} {K:AS→Prop}
theorem sx {t mq u a:Nat} {eY:Bool} (hk:qU P t=some ([Value.int .i64 0],1,mq)) (hx:sF P t=some (none,1)) (hb:s.box u=some ⟨eY,[Sum.inl (.int .i64 (a:Int))]⟩) (hby:mq≤140737488355328)
  (hK: ∀ c' cs',eU cs' [a] c'→K (({ s with box:=upd s.box nm (some ⟨true,cs'⟩) }:AS).put dst (some (Sl nm 0 1 c')))):
  bU P nm .append #[t,t] ty ct (some [V (.slice none 0 0),Sl u 0 1 1]) dst K s:=by
 refine (kG (news:=Gt [a]) hk hx rfl (by decide) rfl (.inl ⟨u,0,1,_,rfl,hb,by simp[ux],fun j u h=>by simpa[Gt] using h,by simp⟩) (by decide) (by omega) (fun h=>by cases h) fun _ c' tail h1 h2 h3=> ?_).plain
 exact hK c' _ ⟨⟨tail,rfl,h2,h3⟩,h1⟩
theorem wY {t mq b u c a:Nat} {eY:Bool} {cs:List SV} {A:List Nat} (hk:qU P t=some ([Value.int .i64 0],1,mq)) (hx:sF P t=some (none,1)) (hg:eU cs A c) (hb:s.box b=some ⟨true,cs⟩) (hu:s.box u=some ⟨eY,[Sum.inl (.int .i64 (a:Int))]⟩) (hne:b≠u)
  (hl:A.length < 1048576) (hby:mq≤1048576)
  (hK: ∀ c' cs',eU cs' (A++[a]) c'→K (({ s with box:=upd (upd s.box b none) nm (some ⟨true,cs'⟩) }:AS).put dst (some (Sl nm 0 (A.length+1) c')))):
  bU P nm .append #[t,t] ty ct (some [Sl b 0 A.length c,Sl u 0 1 1]) dst K s:=by
 refine (pS (olds:=Gt A) (news:=Gt [a]) hk hx rfl (by decide) rfl hb (by rw[hg.len,Nat.zero_add,Nat.mul_one]) hg.room (by rw[ux,Nat.mul_one]) (fun j u h=>by rw[Nat.zero_add];exact hg.at_ h) hg.plain (.inl ⟨u,0,1,_,rfl,hu,by simp[ux],fun j u h=>by simpa[Gt] using h,by simpa using hne⟩) (by omega) ?_ fun c' tail h1 h2 h3=> ?_).plain
 ·have:(A.length+1)*mq≤1048576*1048576:=Nat.mul_le_mul (by omega) hby
  omega
 ·exact hK c' _ ⟨⟨tail,by rw[Pj],by rw[h2,List.length_append,List.length_singleton],h3⟩,by rw[List.length_append,List.length_singleton];exact h1⟩
end
theorem oC {q:Nat} {l:List SV} (h: ∀ x ∈ l,SV.ok (fun n=>n < 60) x):l.map (SV.ren (upd (fun n=>n) 60 q))=l:=by
 conv=>rhs;rw[← List.map_id l]
 exact List.map_congr_left fun x hx=>SV.jc (SV.aY (fun n hn=>aW _ _ _ _ (by omega)) (h x hx).1)
def E9 (m:Nat) (f:Nat→Int) (pc kc:List SV) (cnt:Int) (k c:Nat) (es:List SV) (X:List (Nat×aG)):List (Nat×aG):=
 (60,⟨true,es⟩)::(0,⟨false,[Sum.inr (.inr (4,0,m,m))]⟩)::(1,⟨false,pc⟩)::(2,⟨true,[Sum.inr (.inr (60,0,k,c))]⟩)::(3,⟨true,[Sum.inl (.int .i64 cnt)]⟩)::(4,⟨true,aA .u8 (64*m) f⟩)::(5,⟨false,kc⟩)::X
theorem zX {s:AS} {m' m k c q:Nat} {f:Nat→Int} {pc kc es:List SV} {cnt:Int} {E:List (Nat×AV)} {X:List (Nat×aG)} (hm':m'≤60) (hq:61≤q) (he: ∀ x ∈ E,s.env x.1=some x.2) (RV: ∀ x ∈ E,AV.ren (upd (fun n=>n) 60 q) x.2=x.2∧AV.ok (fun n=>n < 61) x.2)
  (hp: ∀ x ∈ pc,SV.ok (fun n=>n < 60) x) (hk:kc.all SV.plain=true) (Km:es.all SV.plain=true) (hX: ∀ x ∈ X,s.box x.1=some x.2) (QM: ∀ x ∈ X,(5 < x.1∧x.1 < 60)∧ ∀ y ∈ x.2.cells,SV.ok (fun n=>n < 60) y)
  (h0:s.box 0=some ⟨false,[Sum.inr (.inr (4,0,m,m))]⟩) (h1:s.box 1=some ⟨false,pc⟩) (h2:s.box 2=some ⟨true,[Sum.inr (.inr (q,0,k,c))]⟩) (h3:s.box 3=some ⟨true,[Sum.inl (.int .i64 cnt)]⟩) (h4:s.box 4=some ⟨true,aA .u8 (64*m) f⟩) (h5:s.box 5=some ⟨false,kc⟩) (Gr:s.box q=some ⟨true,es⟩):
  lh m' s (nX E (E9 m f pc kc cnt k c es X) 61):=by
 have hlt: ∀ y ∈ E9 m f pc kc cnt k c es X,y.1≤60:=fun y hy=>by
  simp only[E9,List.mem_cons]at hy
  rcases hy with rfl | rfl | rfl | rfl | rfl | rfl | rfl | hy
  any_goals (simp only;omega)
  exact Nat.le_of_lt (QM y hy).1.2
 have hinj: ∀ n,n≤60→ ∀ y ∈ E9 m f pc kc cnt k c es X,upd (fun n=>n) 60 q n=upd (fun n=>n) 60 q y.1→n=y.1:=fun n hn y hy e=>by
  have hy':=hlt y hy
  simp only[upd]at e
  split at e<;>split at e<;>omega
 have big: ∀ {l:List SV},(∀ x ∈ l,SV.ok (fun n=>n < 60) x)→ ∀ x ∈ l,SV.ok (fun n=>n < 61) x:=fun h x hx=>SV.aI (fun n hn=>by omega) (h x hx)
 refine ur (upd (fun n=>n) 60 q) (fun n hn=>aW _ _ _ _ (by omega)) (fun x hx=> ?_) fun x hx=> ?_
 ·obtain ⟨e1,e2⟩:=RV x hx
  exact ⟨by rw[e1];exact he x hx,e2⟩
 ·have hx':=hx
  simp only[E9,List.mem_cons]at hx
  rcases hx with rfl | rfl | rfl | rfl | rfl | rfl | rfl | hx
  ·exact ⟨⟨true,by rw[az Km];simpa[upd] using Gr,fun h=>h⟩,(by decide:60 < 61),ai Km,fun _=>hinj 60 (by decide)⟩
  ·exact ⟨⟨false,h0,fun h=>h⟩,(by decide:0 < 61),fun y hy=>by rw[List.mem_singleton]at hy;subst hy;exact ⟨(by decide:4 < 61),rfl⟩,fun h=>(by cases h)⟩
  ·exact ⟨⟨false,by rw[oC hp];exact h1,fun h=>h⟩,(by decide:1 < 61),big hp,fun h=>(by cases h)⟩
  ·exact ⟨⟨true,h2,fun h=>h⟩,(by decide:2 < 61),fun y hy=>by rw[List.mem_singleton]at hy;subst hy;exact ⟨(by decide:60 < 61),rfl⟩,fun _=>hinj 2 (by decide)⟩
  ·exact ⟨⟨true,h3,fun h=>h⟩,(by decide:3 < 61),ai rfl,fun _=>hinj 3 (by decide)⟩
  ·exact ⟨⟨true,by rw[az aD];exact h4,fun h=>h⟩,(by decide:4 < 61),ai aD,fun _=>hinj 4 (by decide)⟩
  ·exact ⟨⟨false,by rw[az hk];exact h5,fun h=>h⟩,(by decide:5 < 61),ai hk,fun h=>(by cases h)⟩
  ·obtain ⟨⟨a1,a2⟩,a3⟩:=QM x hx
   have e:upd (fun n=>n) 60 q x.1=x.1:=aW _ _ _ _ (by omega)
   exact ⟨⟨x.2.rw,by rw[e,oC a3];exact hX x hx,fun h=>h⟩,by omega,big a3,fun _=>hinj x.1 (by omega)⟩
theorem sy {s:AS} {m' q:Nat} {es:List SV} {E:List (Nat×AV)} {X:List (Nat×aG)} (hm':m'≤60) (hq:61≤q) (he: ∀ x ∈ E,s.env x.1=some (AV.ren (upd (fun n=>n) 60 q) x.2)) (RV: ∀ x ∈ E,AV.ok (fun n=>n < 61) x.2)
  (Km:es.all SV.plain=true) (hX: ∀ x ∈ X,s.box x.1=some x.2) (QM: ∀ x ∈ X,x.1 < 60∧ ∀ y ∈ x.2.cells,SV.ok (fun n=>n < 60) y) (Gr:s.box q=some ⟨true,es⟩):
  lh m' s (nX E ((60,⟨true,es⟩)::X) 61):=by
 have hlt: ∀ y ∈ (60,(⟨true,es⟩:aG))::X,y.1≤60:=fun y hy=>by
  rcases List.mem_cons.1 hy with rfl | hy
  ·exact Nat.le_refl _
  ·exact Nat.le_of_lt (QM y hy).1
 have hinj: ∀ n,n≤60→ ∀ y ∈ (60,(⟨true,es⟩:aG))::X,upd (fun n=>n) 60 q n=upd (fun n=>n) 60 q y.1→n=y.1:=fun n hn y hy e=>by
  have hy':=hlt y hy
  simp only[upd]at e
  split at e<;>split at e<;>omega
 refine ur (upd (fun n=>n) 60 q) (fun n hn=>aW _ _ _ _ (by omega)) (fun x hx=>⟨he x hx,RV x hx⟩) fun x hx=> ?_
 rcases List.mem_cons.1 hx with rfl | hx
 ·exact ⟨⟨true,by rw[az Km];simpa[upd] using Gr,fun h=>h⟩,(by decide:60 < 61),ai Km,fun _=>hinj 60 (by decide)⟩
 ·obtain ⟨a2,a3⟩:=QM x hx
  have e:upd (fun n=>n) 60 q x.1=x.1:=aW _ _ _ _ (by omega)
  exact ⟨⟨x.2.rw,by rw[e,oC a3];exact hX x hx,fun h=>h⟩,by omega,fun y hy=>SV.aI (fun n hn=>by omega) (a3 y hy),fun _=>hinj x.1 (by omega)⟩
theorem Gu {s:AS} {m' q:Nat} {es:List SV} {E:List (Nat×AV)} {X:List (Nat×aG)} (hm':m'≤60) (hq:61≤q) (he: ∀ x ∈ E,s.env x.1=some (AV.ren (upd (fun n=>n) 60 q) x.2)) (RV: ∀ x ∈ E,AV.ok (fun n=>n < 61) x.2)
  (Km:es.all SV.plain=true) (hX: ∀ x ∈ X, ∃ rw',s.box x.1=some ⟨rw',x.2.cells.map (SV.ren (upd (fun n=>n) 60 q))⟩∧(x.2.rw=true→rw'=true)) (QM: ∀ x ∈ X,x.1 < 60∧ ∀ y ∈ x.2.cells,SV.ok (fun n=>n < 61) y) (Gr:s.box q=some ⟨true,es⟩):
  lh m' s (nX E ((60,⟨true,es⟩)::X) 61):=by
 have hlt: ∀ y ∈ (60,(⟨true,es⟩:aG))::X,y.1≤60:=fun y hy=>by
  rcases List.mem_cons.1 hy with rfl | hy
  ·exact Nat.le_refl _
  ·exact Nat.le_of_lt (QM y hy).1
 have hinj: ∀ n,n≤60→ ∀ y ∈ (60,(⟨true,es⟩:aG))::X,upd (fun n=>n) 60 q n=upd (fun n=>n) 60 q y.1→n=y.1:=fun n hn y hy e=>by
  have hy':=hlt y hy
  simp only[upd]at e
  split at e<;>split at e<;>omega
 refine ur (upd (fun n=>n) 60 q) (fun n hn=>aW _ _ _ _ (by omega)) (fun x hx=>⟨he x hx,RV x hx⟩) fun x hx=> ?_
 rcases List.mem_cons.1 hx with rfl | hx
 ·exact ⟨⟨true,by rw[az Km];simpa[upd] using Gr,fun h=>h⟩,(by decide:60 < 61),ai Km,fun _=>hinj 60 (by decide)⟩
 ·obtain ⟨a2,a3⟩:=QM x hx
  have e:upd (fun n=>n) 60 q x.1=x.1:=aW _ _ _ _ (by omega)
  exact ⟨by rw[e];exact hX x hx,by omega,a3,fun _=>hinj x.1 (by omega)⟩
end Go.bM
