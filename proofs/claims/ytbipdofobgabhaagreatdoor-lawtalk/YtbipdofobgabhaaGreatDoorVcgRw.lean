/-
  The calculus: what a row of bytes says of a state. Nothing here speaks of a program's code.
-/
import Derived.Test.YtbipdofobgabhaaGreatDoorVcgY
set_option linter.unusedSectionVars false
set_option linter.unusedSimpArgs false
set_option linter.unusedVariables false
namespace Go.bA

theorem Wv {G:Nat→Int} (h:bg G) (i:Nat):kU (ko G i):=by
 have h0:=h i;have h1:=h (i+1);have h2:=h (i+2);have h3:=h (i+3)
 unfold ko kU;omega
def G7 (k N:Nat) (f:Nat→En) (sv:SV) (out:Nat→Option aI):Prop:=
 (N=0∧sv= .inl (.slice none 0 0)∧out=fun _=>none)∨(0 < N∧ ∃ c cs,sv= .inr (.inr (k,0,N,c))∧cF cs 0 N c f∧out=lk [(k,⟨true,cs⟩)])
theorem JV {k n:Nat} {b b':aI} (h:lk [(k,b)] n=some b'):n=k∧b'=b:=by
 simp only[lk]at h
 split at h
 ·rename_i e;simp only[Option.some.injEq]at h;exact ⟨e,h.symm⟩
 ·cases h
theorem X3 {s:AS} {k q o n c:Nat} {x:St} {cs:List SV} {Post:AV→(Nat→Option aI)→Prop} (hq:k≤q) (hb:s.box q=some ⟨true,cs⟩) (hp:cs.all SV.plain=true)
  (h:Post (Ag (aU { x with store:= .inr (.inr (k,o,n,c)) })) (lk [(k,⟨true,cs⟩)])):sV k Post (Ag (aU { x with store:= .inr (.inr (q,o,n,c)) })) s:=by
 refine ⟨q,Ag (aU { x with store:= .inr (.inr (k,o,n,c)) }),lk [(k,⟨true,cs⟩)],hq, ?_,bR ⟨Nat.lt_succ_self k,rfl⟩,fun m b hm=> ?_,h⟩
 ·rw[dW];simp only[SV.ren,kY,kD]
 ·obtain ⟨rfl,rfl⟩:=JV hm
  exact ⟨Nat.lt_succ_self _,fun _=>rfl,aD hp,⟨true,cs⟩,by rw[kD];exact hb,fun h=>h,(aN hp _).symm⟩
theorem UK:(0 < (List.replicate 2 (Value.int IntKind.u32 0)++List.replicate 64 (Value.int IntKind.u8 0)).length)=True:=eq_true (by decide)
theorem cF.congr {cs:List SV} {o n m c:Nat} {f g:Nat→En} (h:cF cs o n c f) (e:n=m) (hfg: ∀ i,i < n→f i=g i):cF cs o m c g:=
 ⟨h.len,e▸h.room,h.plain,e▸C0 h.shows hfg⟩
theorem tR {x:Int} (h0:0≤x) (h1:x < 4294967296):g9 x 0*16777216+g9 x 1*65536+g9 x 2*256+g9 x 3=x:=by
 have e0:g9 x 0=x / 16777216%256:=by
  show IntKind.u8.wrap (x.fdiv 16777216)=_
  rw[Int.fdiv_eq_ediv_of_nonneg _ (by decide),wrap_u8]
 have e1:g9 x 1=x / 65536%256:=by
  show IntKind.u8.wrap (x.fdiv 65536)=_
  rw[Int.fdiv_eq_ediv_of_nonneg _ (by decide),wrap_u8]
 have e2:g9 x 2=x / 256%256:=by
  show IntKind.u8.wrap (x.fdiv 256)=_
  rw[Int.fdiv_eq_ediv_of_nonneg _ (by decide),wrap_u8]
 have e3:g9 x 3=x%256:=by
  show IntKind.u8.wrap (x.fdiv 1)=_
  rw[Int.fdiv_eq_ediv_of_nonneg _ (by decide),wrap_u8,Int.ediv_one]
 rw[e0,e1,e2,e3];omega
abbrev zEs:List Value:=List.replicate 2 (Value.int IntKind.u32 0)++List.replicate 64 (Value.int IntKind.u8 0)
theorem zL0:iW zEs 0=[]:=rfl
theorem tS {cs:List SV} {p:Nat} {l:List SV} (h:cs.all SV.plain=true) (hl:l.all SV.plain=true):(splice cs p l).all SV.plain=true:=by
 unfold splice
 rw[List.all_append,List.all_append,hl]
 have a:(cs.take p).all SV.plain=true:=List.all_eq_true.2 fun x hx=>List.all_eq_true.1 h x (List.mem_of_mem_take hx)
 have b:(cs.drop (p+l.length)).all SV.plain=true:=List.all_eq_true.2 fun x hx=>List.all_eq_true.1 h x (List.mem_of_mem_drop hx)
 rw[a,b];rfl
def G8 (f g:Nat→Int):Prop:= ∀ i,i < 32→f i=g i
structure EqS (s t:St):Prop where
 own:s.own=t.own
 peer:s.peer=t.peer
 has:s.has=t.has
 root:G8 s.root t.root
 priv:G8 s.priv t.priv
 aF:G8 s.aF t.aF
 rq:G8 s.rq t.rq
 send:G8 s.send t.send
 recv:G8 s.recv t.recv
 se:s.se=t.se
 re:s.re=t.re
 ns:s.ns=t.ns
 nr:s.nr=t.nr
 pn:s.pn=t.pn
 skip:s.skip=t.skip
 room:s.room=t.room
structure EqE (d e:En):Prop where
 ep:d.ep=e.ep
 n:d.n=e.n
 aF:G8 d.aF e.aF
 key:G8 d.key e.key
section
variable {s:St} {n:Nat} {f:Nat→En}
end
end Go.bA
