/-
  The calculus: a long row of code cut in parts: behind each part the state is brought to a written-out one, of which some facts are kept, and the rest is walked from there. Nothing here speaks of a program.
-/
import Derived.Test.YtbipdofobgabhaaGreatDoorVcgI
set_option linter.unusedSectionVars false
set_option linter.unusedSimpArgs false
set_option linter.unusedVariables false
namespace Go.bA

def oA:Nat→Code→Code
 | 0,c=>c
 | n+1, .seq _ b=>oA n b
 | _+1,c=>c
section
variable {P:Program} [Tables P] {W:Nat→Prop} {N:Nat} {w0:Base P} {g:Where} {s:AS} {a:Act} {w:World}
theorem F0: ∀ (n:Nat) (c:Code),codeOk N c=true→codeOk N (oA n c)=true
 | 0,c,h=>h
 | n+1, .seq a b,h=>by
  simp only[codeOk,Bool.and_eq_true]at h
  exact F0 n b h.2
 | n+1, .skip,h=>h
 | n+1, .region .., h=>h
 | n+1, .cond .., h=>h
 | n+1, .block .., h=>h
 | n+1, .loop _,h=>h
 | n+1, .exit _,h=>h
 | n+1, .ret,h=>h
 | n+1, .rangeFunc .., h=>h
 | n+1, .scope _,h=>h
 | n+1, .label _,h=>h
 | n+1, .goto _,h=>h
 | n+1, .refuse _,h=>h
def Sound (P:Program) [Tables P] (W:Nat→Prop) (N:Nat) (w0:Base P) (c:Code) (F:Exit→AS→Prop) (s:AS):Prop:=
 ∀ (g:Where) (a:Act) (w:World) (Q:Exit→Act→World→Prop),bP W N w0 (fun n=>n < s.next) g s a w→
  (∀ e g' s' a' w',bP W N w0 (fun n=>n < s'.next) g' s' a' w'→F e s'→Q e a' w')→c.wp P Q a w
end
theorem F1 {s:AS} {m next:Nat} {env:List (Nat×AV)} {box:List (Nat×aI)} (r:Nat→Nat) (hm: ∀ n,n < m→r n=n) (he: ∀ x ∈ env,s.env x.1=some (AV.ren r x.2)∧AV.ok (fun n=>n < next) x.2)
  (hb: ∀ x ∈ box,(∃ b',s.box (r x.1)=some b'∧(x.2.rw=true→b'.rw=true)∧b'.cells=x.2.cells.map (SV.ren r))∧x.1 < next∧ ∀ y ∈ x.2.cells,SV.ok (fun n=>n < next) y)
  (hi: ∀ x ∈ box,x.2.rw=true→ ∀ y ∈ box,r x.1=r y.1→x.1=y.1):mh m s (yi env box next):=by
 refine ⟨r,⟨fun d v hv=>(he _ (bC _ _ _ hv)).1,fun n b hn=>(hb _ (bC _ _ _ hn)).1,fun n n' b b' hn hrw hn' e=>hi _ (bC _ _ _ hn) hrw _ (bC _ _ _ hn') e,fun d v hv=>(he _ (bC _ _ _ hv)).2,fun t b ht=> ?_⟩,hm⟩
 have:=hb _ (bC _ _ _ ht)
 exact ⟨this.2.1,this.2.2⟩
theorem F3 {s:AS} {m next:Nat} {env:List (Nat×AV)} {box:List (Nat×aI)} (he: ∀ x ∈ env,s.env x.1=some (AV.ren (fun n=>n) x.2)∧AV.ok (fun n=>n < next) x.2)
  (hb: ∀ x ∈ box,(∃ b',s.box x.1=some b'∧(x.2.rw=true→b'.rw=true)∧b'.cells=x.2.cells.map (SV.ren (fun n=>n)))∧x.1 < next∧ ∀ y ∈ x.2.cells,SV.ok (fun n=>n < next) y):mh m s (yi env box next):=
 F1 _ (fun n hn=>rfl) he hb fun x hx _ y hy e=>e
theorem fC.ren {t n:Nat} {v:AV} {f:Nat→Int} {cs:List SV} (h:fC t v n f cs) {r:Nat→Nat} (hr:r t=t):AV.ren r v=v:=by
 rcases h with ⟨⟨a,rfl⟩,h0⟩ | ⟨o,c,rfl,hs⟩
 ·rfl
 ·rw[fb,hr]
section
variable {P:Program} [Tables P] {s:AS} {m:Nat} {Ik:AS→Prop}
theorem nA {c:Code}:oA 0 c=c:=rfl
theorem nB {n:Nat} {a b:Code}:oA (n+1) (.seq a b)=oA n b:=rfl
end
theorem QI:type_of% @nA∧type_of% @nB:=
 ⟨@nA, @nB⟩
end Go.bA
