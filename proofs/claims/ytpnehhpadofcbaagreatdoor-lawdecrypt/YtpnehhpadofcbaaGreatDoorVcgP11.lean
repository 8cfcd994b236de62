/-
  The statement on Decrypt, whole: at every state, valid or not, and all bytes as a frame the program's Decrypt answers as the document's, and what was lent comes back as it was. The row's own conditions: the listed tables and sentinels hold what the program's text lays in them.
-/
import Derived.Test.YtpnehhpadofcbaaGreatDoorVcgPL
import Derived.Test.YtpnehhpadofcbaaGreatDoorVcgRG
set_option maxRecDepth 100000
set_option linter.unusedVariables false
set_option linter.unusedSimpArgs false
namespace Go.Proofs.YtpnehhpadofcbaaGreatDoor.lawDecryptDone

open Go.ChangeShapes Go.WideShapes Go.ChangeAt Go.RowKit
open Go.bU
set_option linter.unusedVariables false
set_option linter.unusedSimpArgs false
theorem own:ownKnob Tryz.prog.godebug=none:=by kernel_rfl
theorem laidOut:laidOutB Tryz.prog=true:=by kernel_rfl
theorem aao:Tryz.prog.bytesOf 5=1:=by kernel_rfl
theorem R8:Tryz.prog.cellsOf 5=1:=by kernel_rfl
theorem lO:Tryz.prog.cellsOf 23=32:=by kernel_rfl
theorem aaZ:Tryz.prog.cellsOf 28=1:=by kernel_rfl
theorem yh:Tryz.prog.cellsOf 4=1:=by kernel_rfl
theorem Lg:Tryz.prog.cellsOf 3=1:=by kernel_rfl
theorem NZ:Tryz.prog.cellsOf 25=1:=by kernel_rfl
theorem CS:Tryz.prog.cellsOf 47=66:=by kernel_rfl
theorem N0:Tryz.prog.cellsOf 27=203:=by kernel_rfl
theorem XE:Tryz.prog.bytesOf 47=72:=by kernel_rfl
def N1 (w:World) (v:Value) (n:Nat) (f:Nat→Int):Prop:=
 (∃ a,v= .slice a 0 0∧n=0)∨ ∃ b o c,v= .slice (some ⟨b,o,none⟩) n c∧b < w.heap.size∧n≤c∧ ∀ i,i < n→w.cell? ⟨b,o+i,none⟩=some (.int .u8 (f i))
def bytesOf (cs:List Value) (i:Nat):Int:=match cs[i]? with
 | some (.int _ x)=>x
 | _=>0
theorem aap (cs:List Value) (hl:cs.length=32) (h: ∀ i,i < 32→ ∃ x,cs[i]? =some (.int .u8 x)∧0≤x∧x < 256):br (bytesOf cs)∧cs=(List.range 32).map fun i=> .int .u8 (bytesOf cs i):=by
 refine ⟨fun i=> ?_, ?_⟩
 ·by_cases hi:i < 32
  ·obtain ⟨x,hx,h0,h1⟩:=h i hi
   simp only[bytesOf,hx];exact ⟨h0,h1⟩
  ·rw[bytesOf,List.getElem?_eq_none (by omega)];simp
 ·apply List.ext_getElem?
  intro i
  by_cases hi:i < 32
  ·obtain ⟨x,hx,_⟩:=h i hi
   rw[List.getElem?_map,List.getElem?_range hi,hx]
   simp only[Option.map_some,bytesOf,hx]
  ·rw[List.getElem?_eq_none (show cs.length≤i by omega),List.getElem?_eq_none (by rw[List.length_map,List.length_range];omega)]
theorem lP {H:Type} {enc:TypeId×Value→H} {W:World} {fuel:Nat} {l:List Value} {x:DataW H×List MemPlace}
  (hf:DataW.trod enc Tryz.prog W 0 (fun _=>true) true fuel 23 l=some x) (hl:l.length=32): ∃ K,br K∧l=(List.range 32).map fun i=> .int .u8 (K i):=by
 obtain ⟨xs,m,rfl,hx,hlen,hxl,hel⟩:=DataW.trod_array Tryz.underlying23 hf
 have hrow: ∀ i,i < 32→ ∃ x,l[i]? =some (.int .u8 x)∧0≤x∧x < 256:=by
  intro i hi
  have he:=hel i hi
  rw[R8,Nat.mul_one]at he
  have hxi:i < xs.length:=by omega
  rw[List.getElem?_eq_getElem hxi]at he
  obtain ⟨n,hc,_,hw⟩:=DataW.trod_int Tryz.underlying5 he
  have hb:=bounds_u8 hw
  refine ⟨n, ?_,hb.1,by omega⟩
  have:((l.drop i).take 1)[0]? =some (.int .u8 n):=by rw[hc];rfl
  rw[List.getElem?_take_of_lt (by decide),List.getElem?_drop]at this
  simpa using this
 obtain ⟨hb,he⟩:=aap l hl hrow
 exact ⟨bytesOf l,hb,he⟩
theorem R9 {H:Type} {enc:TypeId×Value→H} {W:World} {fuel:Nat} {cs:List Value} {d:DataW H} {p:List MemPlace} (hfu:DataW.trod enc Tryz.prog W 0 (fun _=>true) true fuel 28 cs=some (d,p))
  (hw: ∀ l r,d= .slice l r→(l.length+r.length)*1≤reachBytes): ∃ v n f,cs=[v]∧br f∧n+64≤140737488355328∧N1 W v n f:=by
 rcases open_ints Tryz.underlying28 Tryz.underlying5 (by kernel_rfl) hfu with ⟨hcs,_⟩ | ⟨x,len,cap,zs,hcs,_,hl,hm,hz,hd,hcell,hwz⟩
 ·exact ⟨_,0,fun _=>0,hcs,fun _=>⟨by simp,by simp⟩,by decide, .inl ⟨none,rfl,rfl⟩⟩
 ·simp only[if_true]at hz
  have hd2:d= .slice (lits .u8 (zs.take len)) (lits .u8 (zs.drop len)):=by
   have:=congrArg Prod.fst hd
   simpa using this
  have hw2:=hw _ _ hd2
  simp only[lits,List.length_map,List.length_take,List.length_drop,reachBytes]at hw2
  have hb: ∀ i,0≤zs.getD i 0∧zs.getD i 0 < 256:=fun i=>by
   by_cases hi:i < zs.length
   ·have hmz:zs.getD i 0 ∈ zs:=by
     rw[List.getD_eq_getElem?_getD,List.getElem?_eq_getElem hi];exact List.getElem_mem hi
    have:=bounds_u8 (hwz _ hmz)
    exact ⟨this.1,by omega⟩
   ·rw[List.getD_eq_getElem?_getD,List.getElem?_eq_none (by omega)];decide
  refine ⟨_,len,fun i=>zs.getD i 0,hcs,hb,by omega, ?_⟩
  by_cases hc0:cap=0
  ·subst hc0
   obtain rfl:len=0:=by omega
   exact .inl ⟨_,rfl,rfl⟩
  ·obtain ⟨b,off,spot⟩:=x
   have hc:=hcell 0 (by omega)
   have Vv:spot=none:=by simpa[Addr.add] using World.cell?_spot hc
   subst Vv
   rw[add_eq]at hc
   refine .inr ⟨b,off,cap,rfl,pE hc,hl,fun i hi=> ?_⟩
   have:=hcell i (by omega)
   rwa [add_eq]at this
theorem Nk {x:Int} (h:0≤x∧x≤4294967295):mC x:=⟨h.1,by omega⟩
theorem acZ {x:Int} (h: -9223372036854775808≤x∧x≤9223372036854775807): -9223372036854775808≤x∧x < 9223372036854775808:=⟨h.1,by omega⟩
theorem Vw:nV sL:=by
 have z:br (fun _=>(0:Int)):=fun _=>by show (0:Int)≤0∧(0:Int) < 256;decide
 exact ⟨⟨by decide,by decide⟩,⟨by decide,by decide⟩,z,z⟩
theorem CT {g:Where} (f:Nat→Int):(af .u8 32 f).map (SV.aq g)=(List.range 32).map fun i=>Value.int .u8 (f i):=by
 rw[af,List.map_map];rfl
theorem take_one {l:List Value} {o:Nat} (h:o < l.length):List.drop o l=List.take 1 (List.drop o l)++List.drop (o+1) l:=by
 rw[← List.drop_drop,List.take_append_drop]
theorem fD {l:List Value} (o k:Nat):List.drop o l=List.take k (List.drop o l)++List.drop (o+k) l:=by
 rw[← List.drop_drop,List.take_append_drop]
section
variable {H:Type} {enc:TypeId×Value→H} {W:World}
theorem N2 {fuel:Nat} {l:List Value} {x:DataW H×List MemPlace} (hf:DataW.trod enc Tryz.prog W 0 (fun _=>true) true fuel 47 l=some x): ∃ e:En,nV e∧ ∀ g:Where,(gB e).map (SV.aq g)=l:=by
 obtain ⟨xs,m,_,rfl,hl,hlen,hel⟩:=DataW.trod_struct Tryz.underlying47 hf
 rw[CS]at hl
 match xs,hlen with
 | [y0,y1,y2,y3],_=>
  have h0:DataW.trod enc Tryz.prog W 0 (fun _=>true) true m 24 (List.take (Tryz.prog.cellsOf 24) (List.drop 0 l))=some y0:=hel 0 _ rfl
  rw[jU]at h0
  have h1:DataW.trod enc Tryz.prog W 0 (fun _=>true) true m 24 (List.take (Tryz.prog.cellsOf 24) (List.drop 1 l))=some y1:=hel 1 _ rfl
  rw[jU]at h1
  have h2:DataW.trod enc Tryz.prog W 0 (fun _=>true) true m 23 (List.take (Tryz.prog.cellsOf 23) (List.drop 2 l))=some y2:=hel 2 _ rfl
  rw[lO]at h2
  have h3:DataW.trod enc Tryz.prog W 0 (fun _=>true) true m 23 (List.take (Tryz.prog.cellsOf 23) (List.drop 34 l))=some y3:=hel 3 _ rfl
  rw[lO]at h3
  obtain ⟨a,ea,_,wa⟩:=DataW.trod_int Tryz.underlying24 h0
  obtain ⟨b,eb,_,wb⟩:=DataW.trod_int Tryz.underlying24 h1
  obtain ⟨K,hK,eK⟩:=lP h2 (by simp;omega)
  obtain ⟨T,hT,eT⟩:=lP h3 (by simp;omega)
  have ba:=bounds_u32 wa
  have bb:=bounds_u32 wb
  refine ⟨⟨a,b,K,T⟩,⟨Nk ba,Nk bb,hK,hT⟩,fun g=> ?_⟩
  have e0:l=List.take 1 (List.drop 0 l)++(List.take 1 (List.drop 1 l)++(List.take 32 (List.drop 2 l)++List.take 32 (List.drop 34 l))):=by
   have s3:List.drop 34 l=List.take 32 (List.drop 34 l):=(List.take_of_length_le (by rw[List.length_drop];omega)).symm
   have s2:=fD (l:=l) 2 32
   have s1:=fD (l:=l) 1 1
   have s0:=fD (l:=l) 0 1
   simp only[Nat.reduceAdd]at s0 s1 s2
   rw[← s3, ← s2, ← s1, ← s0];rfl
  rw[e0,ea,eb,eK,eT]
  unfold gB
  rw[List.map_cons,List.map_cons,List.map_append,CT,CT];rfl
def G5 (w:World) (v:Value) (n:Nat) (f:Nat→En):Prop:=
 (∃ a,v= .slice a 0 0∧n=0)∨ ∃ b o c,v= .slice (some ⟨b,o,none⟩) n c∧b < w.heap.size∧n≤c∧ ∀ (g:Where) j x,(jm n f)[j]? =some x→w.cell? ⟨b,o+j,none⟩=some (SV.aq g x)
theorem N3 {fuel:Nat} {cs:List Value} {d:DataW H} {p:List MemPlace} (h:DataW.trod enc Tryz.prog W 0 (fun _=>true) true fuel 25 cs=some (d,p))
  (hw: ∀ l r,d= .slice l r→(l.length+r.length)*72≤reachBytes): ∃ v n f,cs=[v]∧(∀ i,nV (f i))∧(n+2)*72≤140737488355328∧G5 W v n f:=by
 rcases DataW.trod_slice Tryz.underlying25 h with ⟨rfl,_⟩ | ⟨a,len,cap,elems,rest,m,_,rfl,hx,_,hlc,_,hlen,hel,hsp,_⟩
 ·exact ⟨_,0,fun _=>sL,rfl,fun _=>Vw,by decide, .inl ⟨none,rfl,rfl⟩⟩
 ·obtain ⟨hrl,Oc⟩:=hsp rfl
  have hd:d= .slice (elems.map (·.1)) (rest.map (·.1)):=congrArg Prod.fst hx
  have hw2:=hw _ _ hd
  simp only[List.length_map,reachBytes]at hw2
  rw[CS]at hel Oc
  have each: ∀ i,i < len→ ∃ e:En,nV e∧ ∃ l,W.cells? 0 (a.add (i*66)) 66=some l∧ ∀ g:Where,(gB e).map (SV.aq g)=l:=fun i hi=>by
   have h1:=hel i hi
   have hi2:i < elems.length:=by omega
   rw[List.getElem?_eq_getElem hi2,Option.bind_eq_some_iff]at h1
   obtain ⟨l,hl1,hl2⟩:=h1
   obtain ⟨e,he,hc⟩:=N2 hl2
   exact ⟨e,he,l,hl1,hc⟩
  have zero:=Vw
  have pick: ∃ f:Nat→En,(∀ i,nV (f i))∧ ∀ i,i < len→ ∃ l,W.cells? 0 (a.add (i*66)) 66=some l∧ ∀ g:Where,(gB (f i)).map (SV.aq g)=l:=by
   refine ⟨fun i=>if hi:i < len then (each i hi).choose else sL,fun i=> ?_,fun i hi=> ?_⟩
   ·show nV (if hi:i < len then (each i hi).choose else sL)
    by_cases hi:i < len
    ·rw[dif_pos hi];exact (each i hi).choose_spec.1
    ·rw[dif_neg hi];exact zero
   ·show ∃ l,W.cells? 0 (a.add (i*66)) 66=some l∧ ∀ g:Where,(gB (if hi:i < len then (each i hi).choose else sL)).map (SV.aq g)=l
    rw[dif_pos hi];exact (each i hi).choose_spec.2
  obtain ⟨f,hf,hcell⟩:=pick
  refine ⟨_,len,f,rfl,hf,by omega, ?_⟩
  by_cases hc0:cap=0
  ·subst hc0
   obtain rfl:len=0:=by omega
   exact .inl ⟨_,rfl,rfl⟩
  ·have aaq: ∃ v,W.cell? (a.add 0)=some v:=by
    have ac0: ∃ l,W.cells? 0 (a.add (0*66)) 66=some l:=by
     by_cases h0:0 < len
     ·obtain ⟨l,hl,_⟩:=hcell 0 h0;exact ⟨l,hl⟩
     ·have h1:=Oc 0 (by omega)
      have h2:0 < rest.length:=by omega
      rw[List.getElem?_eq_getElem h2,Option.bind_eq_some_iff]at h1
      obtain ⟨l,hl,_⟩:=h1
      rw[show len+0=0 by omega]at hl
      exact ⟨l,hl⟩
    obtain ⟨l,hl⟩:=ac0
    obtain ⟨_,h2,h3⟩:=World.cells?_some hl
    have h4:=h3 0 (by decide)
    rw[Nat.zero_mul]at h4
    have h5:l[0]? =some l[0]:=List.getElem?_eq_getElem (by omega)
    have h6:(a.add 0).add 0=a.add 0:=by cases a;simp[Addr.add]
    rw[h6,h5]at h4
    exact ⟨_,h4⟩
   obtain ⟨v0,LP⟩:=aaq
   obtain ⟨b,off,spot⟩:=a
   have Vv:spot=none:=by simpa[Addr.add] using World.cell?_spot LP
   subst Vv
   rw[add_eq]at LP
   refine .inr ⟨b,off,cap,rfl,pE LP,hlc,fun g j x hj=> ?_⟩
   have hj2:j < len*66:=by
    have:=(List.getElem?_eq_some_iff.1 hj).1
    rwa [iy]at this
   have hq:j / 66 < len:=by omega
   obtain ⟨l,hl,xe⟩:=hcell (j / 66) hq
   obtain ⟨_,h2,h3⟩:=World.cells?_some hl
   have h4:=h3 (j%66) (Nat.mod_lt _ (by decide))
   rw[add_eq,add_eq]at h4
   have e1:off+j / 66*66+j%66=off+j:=by omega
   rw[e1]at h4
   rw[h4, ← xe g,List.getElem?_map]
   have h5:=Ja (n:=len) (f:=f) (i:=j / 66) (tail:=[]) hq
   rw[List.append_nil]at h5
   have h6:=congrArg (fun q:List SV=>q[j%66]?) h5
   rw[List.getElem?_take_of_lt (Nat.mod_lt _ (by decide)),List.getElem?_drop,show j / 66*66+j%66=j by omega,hj]at h6
   rw[← h6];rfl
theorem N5 {base:Nat} {v:Value} {d:DataW H} {p:List MemPlace} {ts:List TypeId} {dds:List (DataW H)}
  (hv:Value.okWide Tryz.prog W .any base 27 v) (h:DataW.Trod enc Tryz.prog W 0 (fun _=>true) true 27 v d p) (hsz:(DataW.weightsEach Tryz.prog (27::ts) (d::dds)).all (· ≤reachBytes)=true):
  ∃ (s:St) (u:Value) (n:Nat) (f:Nat→En),gy s∧(∀ i,nV (f i))∧(n+2)*72≤140737488355328∧G5 W u n f∧ ∀ (g:Where) (sv:SV),SV.aq g sv=u→AV.aq g (Ag (bC { s with store:=sv }))=v:=by
 obtain ⟨cs,rfl,hcs,_⟩: ∃ cs,v= .agg cs∧cs.size=Tryz.prog.cellsOf 27∧Row.okWide Tryz.prog W .any base 27 cs:=by
  simpa[Value.okWide,Tryz.underlying27] using hv
 rw[N0]at hcs
 obtain ⟨l⟩:=cs
 obtain ⟨fuel,hf⟩:=h
 have hl:l.length=203:=by simpa using hcs
 have hf:DataW.trod enc Tryz.prog W 0 (fun _=>true) true fuel 27 l=some (d,p):=by simpa[Value.cells] using hf
 obtain ⟨xs,m,_,hx,_,hlen,hel⟩:=DataW.trod_struct Tryz.underlying27 hf
 have hd:d= .agg (xs.map (·.1)):=congrArg Prod.fst hx
 have hxs: ∃ y0 y1 y2 y3 y4 y5 y6 y7 y8 y9 y10 y11 y12 y13 y14 y15 YH,xs=[y0,y1,y2,y3,y4,y5,y6,y7,y8,y9,y10,y11,y12,y13,y14,y15,YH]:=by
  match xs,hlen with
  | [y0,y1,y2,y3,y4,y5,y6,y7,y8,y9,y10,y11,y12,y13,y14,y15,YH],_=>exact ⟨y0,y1,y2,y3,y4,y5,y6,y7,y8,y9,y10,y11,y12,y13,y14,y15,YH,rfl⟩
 obtain ⟨y0,y1,y2,y3,y4,y5,y6,y7,y8,y9,y10,y11,y12,y13,y14,y15,YH,rfl⟩:=hxs
 have h0:DataW.trod enc Tryz.prog W 0 (fun _=>true) true m 4 (List.take (Tryz.prog.cellsOf 4) (List.drop 0 l))=some y0:=hel 0 _ rfl
 rw[yh]at h0
 have h1:DataW.trod enc Tryz.prog W 0 (fun _=>true) true m 4 (List.take (Tryz.prog.cellsOf 4) (List.drop 1 l))=some y1:=hel 1 _ rfl
 rw[yh]at h1
 have h2:DataW.trod enc Tryz.prog W 0 (fun _=>true) true m 4 (List.take (Tryz.prog.cellsOf 4) (List.drop 2 l))=some y2:=hel 2 _ rfl
 rw[yh]at h2
 have h3:DataW.trod enc Tryz.prog W 0 (fun _=>true) true m 23 (List.take (Tryz.prog.cellsOf 23) (List.drop 3 l))=some y3:=hel 3 _ rfl
 rw[lO]at h3
 have h4:DataW.trod enc Tryz.prog W 0 (fun _=>true) true m 23 (List.take (Tryz.prog.cellsOf 23) (List.drop 35 l))=some y4:=hel 4 _ rfl
 rw[lO]at h4
 have h5:DataW.trod enc Tryz.prog W 0 (fun _=>true) true m 23 (List.take (Tryz.prog.cellsOf 23) (List.drop 67 l))=some y5:=hel 5 _ rfl
 rw[lO]at h5
 have h6:DataW.trod enc Tryz.prog W 0 (fun _=>true) true m 23 (List.take (Tryz.prog.cellsOf 23) (List.drop 99 l))=some y6:=hel 6 _ rfl
 rw[lO]at h6
 have h7:DataW.trod enc Tryz.prog W 0 (fun _=>true) true m 23 (List.take (Tryz.prog.cellsOf 23) (List.drop 131 l))=some y7:=hel 7 _ rfl
 rw[lO]at h7
 have h8:DataW.trod enc Tryz.prog W 0 (fun _=>true) true m 23 (List.take (Tryz.prog.cellsOf 23) (List.drop 163 l))=some y8:=hel 8 _ rfl
 rw[lO]at h8
 have h9:DataW.trod enc Tryz.prog W 0 (fun _=>true) true m 24 (List.take (Tryz.prog.cellsOf 24) (List.drop 195 l))=some y9:=hel 9 _ rfl
 rw[jU]at h9
 have h10:DataW.trod enc Tryz.prog W 0 (fun _=>true) true m 24 (List.take (Tryz.prog.cellsOf 24) (List.drop 196 l))=some y10:=hel 10 _ rfl
 rw[jU]at h10
 have h11:DataW.trod enc Tryz.prog W 0 (fun _=>true) true m 24 (List.take (Tryz.prog.cellsOf 24) (List.drop 197 l))=some y11:=hel 11 _ rfl
 rw[jU]at h11
 have h12:DataW.trod enc Tryz.prog W 0 (fun _=>true) true m 24 (List.take (Tryz.prog.cellsOf 24) (List.drop 198 l))=some y12:=hel 12 _ rfl
 rw[jU]at h12
 have X7:DataW.trod enc Tryz.prog W 0 (fun _=>true) true m 24 (List.take (Tryz.prog.cellsOf 24) (List.drop 199 l))=some y13:=hel 13 _ rfl
 rw[jU]at X7
 have X8:DataW.trod enc Tryz.prog W 0 (fun _=>true) true m 3 (List.take (Tryz.prog.cellsOf 3) (List.drop 200 l))=some y14:=hel 14 _ rfl
 rw[Lg]at X8
 have h15:DataW.trod enc Tryz.prog W 0 (fun _=>true) true m 3 (List.take (Tryz.prog.cellsOf 3) (List.drop 201 l))=some y15:=hel 15 _ rfl
 rw[Lg]at h15
 have EG:DataW.trod enc Tryz.prog W 0 (fun _=>true) true m 25 (List.take (Tryz.prog.cellsOf 25) (List.drop 202 l))=some YH:=hel 16 _ rfl
 rw[NZ]at EG
 obtain ⟨b0,eb0,_⟩:=DataW.trod_bool Tryz.underlying4 h0
 obtain ⟨b1,eb1,_⟩:=DataW.trod_bool Tryz.underlying4 h1
 obtain ⟨b2,eb2,_⟩:=DataW.trod_bool Tryz.underlying4 h2
 obtain ⟨K3,hK3,eK3⟩:=lP h3 (by simp;omega)
 obtain ⟨K4,hK4,eK4⟩:=lP h4 (by simp;omega)
 obtain ⟨K5,hK5,eK5⟩:=lP h5 (by simp;omega)
 obtain ⟨K6,hK6,eK6⟩:=lP h6 (by simp;omega)
 obtain ⟨K7,hK7,eK7⟩:=lP h7 (by simp;omega)
 obtain ⟨K8,hK8,eK8⟩:=lP h8 (by simp;omega)
 obtain ⟨x9,ex9,_,wx9⟩:=DataW.trod_int Tryz.underlying24 h9
 have bx9:=bounds_u32 wx9
 obtain ⟨Df,afk,_,afl⟩:=DataW.trod_int Tryz.underlying24 h10
 have afm:=bounds_u32 afl
 obtain ⟨BU,afn,_,afo⟩:=DataW.trod_int Tryz.underlying24 h11
 have afp:=bounds_u32 afo
 obtain ⟨x12,afq,_,afr⟩:=DataW.trod_int Tryz.underlying24 h12
 have afs:=bounds_u32 afr
 obtain ⟨x13,aft,_,afu⟩:=DataW.trod_int Tryz.underlying24 X7
 have afv:=bounds_u32 afu
 obtain ⟨x14,afw,_,afx⟩:=DataW.trod_int Tryz.underlying3 X8
 have afy:=bounds_i64 afx
 obtain ⟨x15,afz,_,afA⟩:=DataW.trod_int Tryz.underlying3 h15
 have afB:=bounds_i64 afA
 obtain ⟨u,n,f,eu,hfe,hn,hst⟩:=N3 (d:=YH.1) (p:=YH.2) EG (fun q r e=>by
  have h1:((q.length+r.length)*72) ∈ DataW.weightsEach Tryz.prog (27::ts) (d::dds):=by
   refine DataW.weights_mem_each (j:=0) rfl rfl _ ?_
   rw[hd]
   simp only[DataW.weights,Tryz.underlying27]
   refine DataW.weights_mem_each (j:=16) (t:=25) (d:=YH.1) rfl rfl _ ?_
   rw[e]
   have hb:=XE
   simp only[DataW.weights,Tryz.underlying25,hb]
   simp
  have:=List.all_eq_true.1 hsz _ h1
  simpa using this)
 refine ⟨⟨b0,b1,b2,K3,K4,K5,K6,K7,K8,x9,Df,BU,x12,x13,x14,x15,Sum.inl (.slice none 0 0)⟩,u,n,f,⟨hK3,hK4,hK5,hK6,hK7,hK8,Nk bx9,Nk afm,Nk afp,Nk afs,Nk afv,acZ afy,acZ afB⟩,hfe,hn,hst,fun g sv N8=> ?_⟩
 have e0:l=List.take 1 (List.drop 0 l)++(List.take 1 (List.drop 1 l)++(List.take 1 (List.drop 2 l)++(List.take 32 (List.drop 3 l)++(List.take 32 (List.drop 35 l)++(List.take 32 (List.drop 67 l)++(List.take 32 (List.drop 99 l)++(List.take 32 (List.drop 131 l)++(List.take 32 (List.drop 163 l)++(List.take 1 (List.drop 195 l)++(List.take 1 (List.drop 196 l)++(List.take 1 (List.drop 197 l)++(List.take 1 (List.drop 198 l)++(List.take 1 (List.drop 199 l)++(List.take 1 (List.drop 200 l)++(List.take 1 (List.drop 201 l)++(List.take 1 (List.drop 202 l))))))))))))))))):=by
  have Ti:List.drop 202 l=List.take 1 (List.drop 202 l):=(List.take_of_length_le (by rw[List.length_drop];omega)).symm
  have s15:=fD (l:=l) 201 1
  have s14:=fD (l:=l) 200 1
  have s13:=fD (l:=l) 199 1
  have s12:=fD (l:=l) 198 1
  have s11:=fD (l:=l) 197 1
  have s10:=fD (l:=l) 196 1
  have s9:=fD (l:=l) 195 1
  have s8:=fD (l:=l) 163 32
  have s7:=fD (l:=l) 131 32
  have s6:=fD (l:=l) 99 32
  have s5:=fD (l:=l) 67 32
  have s4:=fD (l:=l) 35 32
  have s3:=fD (l:=l) 3 32
  have s2:=fD (l:=l) 2 1
  have s1:=fD (l:=l) 1 1
  have s0:=fD (l:=l) 0 1
  simp only[Nat.reduceAdd]at s0 s1 s2 s3 s4 s5 s6 s7 s8 s9 s10 s11 s12 s13 s14 s15
  rw[← Ti, ← s15, ← s14, ← s13, ← s12, ← s11, ← s10, ← s9, ← s8, ← s7, ← s6, ← s5, ← s4, ← s3, ← s2, ← s1, ← s0];rfl
 show Value.agg ((bC _).map (SV.aq g)).toArray= .agg ⟨l⟩
 rw[e0,eb0,eb1,eb2,eK3,eK4,eK5,eK6,eK7,eK8,ex9,afk,afn,afq,aft,afw,afz,eu]
 unfold bC xh
 simp only[List.map_append,CT,List.map_cons,List.map_nil,N8]
 rfl
end
theorem ac7 {w:World} {b o:Nat} {cs:List SV} (hb:b < w.heap.size) (hc: ∀ (g:Where) i x,cs[i]? =some x→w.cell? ⟨b,o+i,none⟩=some (SV.aq g x)):fA (fun _=>(b,o)) (xw (lk [(0,⟨false,cs⟩)])) w:=by
 refine ⟨fun t bx ht=>hb,fun t bx ht i x hx=> ?_,fun t bx ht hrw=> ?_,fun t t' bx VA ht hrw=> ?_⟩
 ·obtain ⟨rfl,rfl⟩:=A6 ht;exact hc _ i x hx
 ·obtain ⟨rfl,rfl⟩:=A6 ht;cases hrw
 ·obtain ⟨rfl,rfl⟩:=A6 ht;cases hrw
theorem afD {w:World} {b o b' o':Nat} {cs ds:List SV} (hb:b < w.heap.size) (hc: ∀ (g:Where) i x,cs[i]? =some x→w.cell? ⟨b,o+i,none⟩=some (SV.aq g x)) (hb':b' < w.heap.size) (lS: ∀ (g:Where) i x,ds[i]? =some x→w.cell? ⟨b',o'+i,none⟩=some (SV.aq g x)):
  fA (fun t=>if t=0 then (b,o) else (b',o')) (xw (lk [(0,⟨false,cs⟩),(1,⟨false,ds⟩)])) w:=by
 refine ⟨fun t bx ht=> ?_,fun t bx ht i x hx=> ?_,fun t bx ht hrw=> ?_,fun t t' bx VA ht hrw=> ?_⟩
 ·rcases vD ht with ⟨rfl,rfl⟩ | ⟨rfl,rfl⟩
  ·exact hb
  ·exact hb'
 ·rcases vD ht with ⟨rfl,rfl⟩ | ⟨rfl,rfl⟩
  ·exact hc _ i x hx
  ·exact lS _ i x hx
 ·rcases vD ht with ⟨rfl,rfl⟩ | ⟨rfl,rfl⟩<;>cases hrw
 ·rcases vD ht with ⟨rfl,rfl⟩ | ⟨rfl,rfl⟩<;>cases hrw
theorem Fy {w:World} {b o n:Nat} {f:Nat→Int} (hc: ∀ i,i < n→w.cell? ⟨b,o+i,none⟩=some (.int .u8 (f i))): ∀ (g:Where) i x,(af .u8 n f)[i]? =some x→w.cell? ⟨b,o+i,none⟩=some (SV.aq g x):=fun g i x hx=>by
 by_cases hi:i < n
 ·rw[aA .u8 n f i hi]at hx
  obtain rfl:=Option.some.inj hx
  exact hc i hi
 ·rw[List.getElem?_eq_none (by rw[ah];omega)]at hx;cases hx
theorem walk [aO] {w:World} {v u v2:Value} (hl:Laid Tryz.prog w) {s:St} {n1 n2:Nat} {f1:Nat→En} {f2:Nat→Int} (hs:gy s) (hf: ∀ i,nV (f1 i)) (b2:br f2) (m1:(n1+2)*72≤140737488355328) (m2:n2+64≤140737488355328) (h1:G5 w u n1 f1) (h2:N1 w v2 n2 f2)
  (hv: ∀ (g:Where) (sv:SV),SV.aq g sv=u→AV.aq g (Ag (bC { s with store:=sv }))=v):
  Calls Tryz.prog 3 #[v,v2] w fun e w'=>e= .returned (.bool true)∧Below w.heap.size w w':=by
 rcases h1 with ⟨a1,rfl,rfl⟩ | ⟨x1,o1,c1,rfl,lt1,cc1,YI⟩<;>rcases h2 with ⟨a2,rfl,rfl⟩ | ⟨x2,o2,c2,rfl,lt2,cp2,YJ⟩
 ·have hc:=(aan (f:=f1) (raw:=f2) (a:=a1) (a':=a2) hs hf b2).call (fun _=>False) (fun _=>(0,0)) w hl (fun _ _ _ h=>h) ⟨fun t bx ht=>by simp[xw]at ht,fun t bx ht=>by simp[xw]at ht,fun t bx ht=>by simp[xw]at ht,fun t t' bx VA ht=>by simp[xw]at ht⟩ (fun t bx ht=>by simp at ht)
  simp only[List.map_cons,List.map_nil,hv (fun _=>(0,0)) (Sum.inl (.slice a1 0 0)) rfl]at hc
  refine hc.mono ?_
  rintro e w' ⟨r,out,g',rfl,⟨rfl,rfl⟩,_,_,_,_,_,hfr⟩
  exact ⟨rfl,Kept.below hfr⟩
 ·have hc:=(aam (f:=f1) (a:=a1) (c:=c2) hs hf b2 aw cp2 aV m2).call (fun _=>False) (fun _=>(x2,o2)) w hl (fun _ _ _ h=>h) (ac7 lt2 (Fy YJ)) (fun t bx ht hrw=>by obtain ⟨rfl,rfl⟩:=A6 ht;cases hrw)
  simp only[List.map_cons,List.map_nil,hv (fun _=>(x2,o2)) (Sum.inl (.slice a1 0 0)) rfl]at hc
  refine hc.mono ?_
  rintro e w' ⟨r,out,g',rfl,⟨rfl,rfl⟩,_,_,_,_,_,hfr⟩
  exact ⟨rfl,Kept.below hfr⟩
 ·have hc:=(aal (raw:=f2) (a:=a2) (c:=c1) hs hf b2 tA yQ cc1 m1).call (fun _=>False) (fun _=>(x1,o1)) w hl (fun _ _ _ h=>h) (ac7 lt1 YI) (fun t bx ht hrw=>by obtain ⟨rfl,rfl⟩:=A6 ht;cases hrw)
  simp only[List.map_cons,List.map_nil,hv (fun _=>(x1,o1)) (Sum.inr (.inr (0,0,n1,c1))) rfl]at hc
  refine hc.mono ?_
  rintro e w' ⟨r,out,g',rfl,⟨rfl,rfl⟩,_,_,_,_,_,hfr⟩
  exact ⟨rfl,Kept.below hfr⟩
 ·have hc:=(aak (c:=c1) (c':=c2) hs hf b2 tA aw yQ cc1 cp2 aV m1 m2).call (fun _=>False) (fun t=>if t=0 then (x1,o1) else (x2,o2)) w hl (fun _ _ _ h=>h) (afD lt1 YI lt2 (Fy YJ)) (fun t bx ht hrw=>by rcases vD ht with ⟨rfl,rfl⟩ | ⟨rfl,rfl⟩<;>cases hrw)
  simp only[List.map_cons,List.map_nil,hv (fun t=>if t=0 then (x1,o1) else (x2,o2)) (Sum.inr (.inr (0,0,n1,c1))) rfl]at hc
  refine hc.mono ?_
  rintro e w' ⟨r,out,g',rfl,⟨rfl,rfl⟩,_,_,_,_,_,hfr⟩
  exact ⟨rfl,Kept.below hfr⟩
theorem Vx (os:Os) (args:Array Value):laidMetH Tryz.prog tabs ((World.doorLaid Tryz.prog 4000 os).forCall (fun _ _=>0) ⟨#[],args,[]⟩).memory:=
 laidMetH_of_parts3 (fuel:=8) (laidMet_of_run' 8 (by kernel_rfl) (by kernel_rfl)) (by kernel_rfl) (by kernel_rfl)
theorem lifted (os:Os) (started:os.Started) (H:Type) (enc:TypeId×Value→H):
  ReturnsInHanded {} Tryz.checked os 3 .any (fun w args=>(Rows.lawDecryptSpec.pre enc Tryz.prog Tryz.f3 [] false w args∧laidMetH Tryz.prog tabs w)∧sizedMet enc Tryz.prog Tryz.f3 (OpenSpec.ofChange Rows.lawDecryptSpec) false w args)
   (Rows.lawDecryptSpec.post enc Tryz.prog Tryz.f3 false true false false):=by
 refine returnsInHanded_of_change_and (C:=Tryz.checked) (X:=fun w _=>laidMetH Tryz.prog tabs w) (fun _ _ _ hh h=>h.of_heap hh) own started (by kernel_rfl) Tryz.func3
  (ChangeSpec.witness_shaped (enc:=enc) (C:=Tryz.checked) (os:=os) (X:=fun w _=>laidMetH Tryz.prog tabs w) false (World.doorLaid Tryz.prog 4000 os) #[.agg (List.replicate 3 (Value.bool false)++List.replicate 192 (Value.int .u8 0)++List.replicate 5 (Value.int .u32 0)++List.replicate 2 (Value.int .i64 0)++[Value.slice none 0 0]).toArray, .slice none 0 0] 40 rfl (World.shaped_of_RefB (by kernel_rfl) (by kernel_rfl)) (by kernel_rfl) (by kernel_rfl) (by kernel_rfl) (Vx os _)) ?_
 intro W base args ds gs before YK hW _ afE hL _
 have hval: ∀ (j:Nat) t v,Tryz.f3.params[j]? =some t→args[j]? =some v→Value.okWide Tryz.prog W .any base t v:=YK
 have hW':=hW
 have hsz:(DataW.weightsEach Tryz.prog (Tryz.f3.params.toList++Rows.lawDecryptSpec.plain.varTypes Tryz.prog) (ds++gs)).all (· ≤reachBytes)=true:=afE
 obtain ⟨p,q,hA0,hV,rfl,hfz,hnd⟩:=hW
 have hA:DataW.TrodAll enc Tryz.prog W 0 (fun _=>true) true Tryz.f3.params.toList args.toList ds p:=hA0
 rw[Tryz.params3]at hA hval hsz
 obtain ⟨v0,vs0,e0,ds0,p0,q0,hargs,rfl,rfl,h0,r0⟩:=trodAll_cons hA
 obtain ⟨v1,vs1,e1,ds1,p1,q1,rfl,rfl,rfl,h1,r1⟩:=trodAll_cons r0
 obtain ⟨rfl,rfl,rfl⟩:=trodAll_nil r1
 obtain rfl:args= #[v0,v1]:=by cases args;simp_all
 obtain ⟨rfl,rfl⟩:=trodVars_none hV
 obtain ⟨s,u,n1,f1,hs,hfe,m1,i1,TN⟩:=N5 (hval 0 27 v0 rfl rfl) h0 hsz
 have lt0: ∀ x ∈ p0,x.block < W.heap.size:=by obtain ⟨m,hm⟩:=h0;exact DataW.trod_lt m _ _ _ hm
 have lt1: ∀ x ∈ p1,x.block < W.heap.size:=by obtain ⟨m,hm⟩:=h1;exact DataW.trod_lt m _ _ _ hm
 obtain ⟨a2,ac8,ac9,rfl⟩:=okWide_slice Tryz.underlying28 (hval 1 28 v1 rfl rfl)
 obtain ⟨n2,f2,b2,m2,i2⟩: ∃ n f,br f∧n+64≤140737488355328∧N1 W (.slice a2 ac8 ac9) n f:=by
  have h1':=h1
  obtain ⟨fuel,hfu⟩:=h1'
  obtain ⟨v,n,f,e,g1,g2,g3⟩:=R9 hfu (fun l r e=>by
   subst e
   have hw:=sized_slice hsz (j:=1) (t:=28) (e:=5) rfl rfl Tryz.underlying28
   rwa [aao]at hw)
  obtain rfl:Value.slice a2 ac8 ac9=v:=by simpa[Value.cells] using e
  exact ⟨n,f,g1,g2,g3⟩
 clear hA0 YK
 obtain ⟨E,hLd⟩:=Wn hL
 refine (walk hLd hs hfe b2 m1 m2 i1 i2 TN).mono fun e W' ⟨he,bel⟩=> ?_
 subst he
 exact ⟨_,rfl,_,_,_,[],_,[],hW',trodAll_mk1 (shut_bool Tryz.underlying4 _),
  (trodAll_cons_mk (Below.trod laidOut (by kernel_rfl) (of_decide_eq_true (by kernel_rfl)) h0 bel lt0) (trodAll_cons_mk (Below.trod laidOut (by kernel_rfl) (of_decide_eq_true (by kernel_rfl)) h1 bel lt1) trodAll_mk0)),rfl,bel.frame _,fun h=>by cases h⟩
theorem over:Rows.LawDecryptSaid:=
 OpenClaim.holds_of_wide 3 Tryz.f3 rfl rfl rfl rfl rfl rfl rfl ⟨rfl,rfl,rfl,rfl,rfl⟩ rfl rfl rfl rfl rfl (by kernel_rfl) Tryz.func3 (by kernel_rfl)
  (of_decide_eq_true (by kernel_rfl)) (by unfold Func.isWrapper;first | (rw[if_pos (by decide+kernel)];kernel_rfl) | (rw[if_neg (by decide+kernel)];exact ⟨rfl,rfl⟩))
  (fun os started H enc _=>lifted os started H enc)
end Go.Proofs.YtpnehhpadofcbaaGreatDoor.lawDecryptDone
