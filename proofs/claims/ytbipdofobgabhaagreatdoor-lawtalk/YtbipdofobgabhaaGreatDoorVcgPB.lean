/-
  The statement's function on what is handed in.
-/
import Derived.Test.YtbipdofobgabhaaGreatDoorVcgPL
import Derived.Test.YtbipdofobgabhaaGreatDoorVcgB1
set_option maxRecDepth 100000
set_option linter.unusedVariables false
set_option linter.unusedSimpArgs false
namespace Go.Proofs.YtbipdofobgabhaaGreatDoor.lawTalkDone

open Go.ChangeShapes Go.WideShapes Go.ChangeAt Go.RowKit
open Go.bA
set_option linter.unusedVariables false
set_option linter.unusedSimpArgs false
theorem Xf {w:World} {g:Where} {ins:Nat→Option aI} (h: ∀ t bx,ins t=some bx→bx.rw=false∧(g t).1 < w.heap.size∧ ∀ i x,bx.cells[i]? =some x→w.cell? ⟨(g t).1,(g t).2+i,none⟩=some (SV.aq g x)):fq g (FB ins) w:=by
 refine ⟨fun t bx ht=>(h t bx ht).2.1,fun t bx ht i x hx=>(h t bx ht).2.2 i x hx,fun t bx ht hrw=> ?_,fun t t' bx bx' ht hrw=> ?_⟩
 ·rw[(h t bx ht).1]at hrw;cases hrw
 ·rw[(h t bx ht).1]at hrw;cases hrw
theorem Ij {g:Where} (f:Nat→Int):AV.aq g (Ag (ah .u8 32 f))= .agg ((List.range 32).map fun i=>Value.int .u8 (f i)).toArray:=by
 show Value.agg ((ah .u8 32 f).map (SV.aq g)).toArray=_
 rw[ah,List.map_map];rfl
theorem pick {w:World} {d:Nat×Nat} {v:Value} {m t:Nat} {f:Nat→Int} (hd:d.1 < w.heap.size) (h:yZ w v m f):
  ∃ (loc:Nat×Nat) (pv:SV) (cs:List SV),loc.1 < w.heap.size∧cs.all SV.plain=true∧fC t (.inl (.inl pv)) m f cs∧(∀ (g:Where) j x,cs[j]? =some x→w.cell? ⟨loc.1,loc.2+j,none⟩=some (SV.aq g x))∧(∀ g:Where,g t=loc→SV.aq g pv=v)∧ ∀ M:Nat→Prop,M t→SV.ok M pv:=by
 rcases h with ⟨a,rfl,rfl⟩ | ⟨b,o,c,rfl,hb,hc,hcell⟩
 ·exact ⟨d, .inl (.slice a 0 0),[],hd,rfl, .inl ⟨⟨a,rfl⟩,rfl⟩,fun g j x hx=>by simp at hx,fun g hg=>rfl,fun M hM=>SV.aM rfl⟩
 ·refine ⟨(b,o), .inr (.inr (t,0,m,c)),ah .u8 m f,hb,az, .inr ⟨0,c,rfl,bN⟩,fun g j x hx=> ?_,fun g hg=> ?_,fun M hM=>⟨hM,rfl⟩⟩
  ·by_cases hj:j < m
   ·rw[aE .u8 m f j hj]at hx
    obtain rfl:=Option.some.inj hx
    exact hcell j hj
   ·rw[List.getElem?_eq_none (by rw[af];omega)]at hx;cases hx
  ·show Value.slice (some ⟨(g t).1,(g t).2+0,none⟩) m c=_
   rw[hg];rfl
open Go.ChangeShapes Go.WideShapes Go.ChangeAt Go.RowKit
open Go.bA
set_option linter.unusedVariables false
set_option linter.unusedSimpArgs false
theorem Y4 [aG] {w:World} {vp vo:Value} {K no:Nat} {root priv mine yours fo:Nat→Int} {vs:Nat→Value} {ms:Nat→Nat} {fs:Nat→Nat→Int} (hl:Laid Tryz.prog w) (hq:K=0∨1000 < K∨4000 < no) (hp:y5 w vp K vs ms fs) (ho:tP w vo no fo):
  Calls Tryz.prog 3 #[.agg ((List.range 32).map fun i=>Value.int .u8 (root i)).toArray, .agg ((List.range 32).map fun i=>Value.int .u8 (priv i)).toArray, .agg ((List.range 32).map fun i=>Value.int .u8 (mine i)).toArray, .agg ((List.range 32).map fun i=>Value.int .u8 (yours i)).toArray,vp,vo] w fun e w'=>e= .returned (.bool true)∧Below w.heap.size w w':=by
 have key: ∀ (q:Nat) (ins:Nat→Option aI) (g:Where) (up uo:AV),((∃ a,up=V (.slice a 0 0)∧K=0)∨ ∃ t o c,up=Sl t o K c∧t < q)→((∃ a,uo=V (.slice a 0 0)∧no=0)∨ ∃ t oo co,uo=Sl t oo no co∧t < q)→(∀ n,n < q→ ∃ b,ins n=some b)→(∀ n b,ins n=some b→n < q∧b=⟨false,[]⟩∧(g n).1 < w.heap.size)→AV.aq g up=vp→AV.aq g uo=vo→
   Calls Tryz.prog 3 #[.agg ((List.range 32).map fun i=>Value.int .u8 (root i)).toArray, .agg ((List.range 32).map fun i=>Value.int .u8 (priv i)).toArray, .agg ((List.range 32).map fun i=>Value.int .u8 (mine i)).toArray, .agg ((List.range 32).map fun i=>Value.int .u8 (yours i)).toArray,vp,vo] w fun e w'=>e= .returned (.bool true)∧Below w.heap.size w w':=by
  intro q ins g up uo h1 h2 h3 h4 h5 h6
  have hc:=(Y3 (root:=root) (priv:=priv) (mine:=mine) (yours:=yours) hq h1 h2 h3 (fun n b hb=>by obtain ⟨a,rfl,_⟩:=h4 n b hb;exact ⟨a,fun x hx=>by cases hx⟩)).call (fun _=>False) g w hl (fun _ _ _ h=>h) (Xf fun t bx ht=>by
   obtain ⟨_,rfl,h⟩:=h4 t bx ht
   exact ⟨rfl,h,fun i x hx=>by simp at hx⟩) (fun t bx ht hrw=>by obtain ⟨_,rfl,_⟩:=h4 t bx ht;cases hrw)
  simp only[List.map_cons,List.map_nil,Ij,h5,h6]at hc
  refine hc.mono ?_
  rintro e w' ⟨r,out,g',rfl,⟨rfl,rfl⟩,_,_,_,_,_,hfr⟩
  exact ⟨rfl,Kept.below hfr⟩
 rcases hp with ⟨a1,rfl,e1⟩ | ⟨b1,o1,c1,rfl,Xg,_,_⟩<;>rcases ho with ⟨a2,rfl,e2⟩ | ⟨b2,o2,c2,rfl,lt2,_,_⟩
 ·exact key 0 (fun _=>none) (fun _=>(0,0)) (V (.slice a1 0 0)) (V (.slice a2 0 0)) (.inl ⟨_,rfl,e1⟩) (.inl ⟨_,rfl,e2⟩) (fun n hn=>absurd hn (Nat.not_lt_zero n)) (fun n b hb=>by cases hb) rfl rfl
 ·exact key 1 (fun n=>if n < 1 then some ⟨false,[]⟩ else none) (fun _=>(b2,o2)) (V (.slice a1 0 0)) (Sl 0 0 no c2) (.inl ⟨_,rfl,e1⟩) (.inr ⟨0,0,c2,rfl,by decide⟩) (fun n hn=>⟨_,if_pos hn⟩) (fun n b hb=>by split at hb<;>cases hb;exact ⟨by assumption,rfl,lt2⟩) rfl rfl
 ·exact key 1 (fun n=>if n < 1 then some ⟨false,[]⟩ else none) (fun _=>(b1,o1)) (Sl 0 0 K c1) (V (.slice a2 0 0)) (.inr ⟨0,0,c1,rfl,by decide⟩) (.inl ⟨_,rfl,e2⟩) (fun n hn=>⟨_,if_pos hn⟩) (fun n b hb=>by split at hb<;>cases hb;exact ⟨by assumption,rfl,Xg⟩) rfl rfl
 ·exact key 2 (fun n=>if n < 2 then some ⟨false,[]⟩ else none) (fun n=>if n=0 then (b1,o1) else (b2,o2)) (Sl 0 0 K c1) (Sl 1 0 no c2) (.inr ⟨0,0,c1,rfl,by decide⟩) (.inr ⟨1,0,c2,rfl,by decide⟩) (fun n hn=>⟨_,if_pos hn⟩) (fun n b hb=>by
   split at hb<;>cases hb
   exact ⟨by assumption,rfl,by split<;>assumption⟩) rfl rfl
open Go.ChangeShapes Go.WideShapes Go.ChangeAt Go.RowKit
open Go.bA
set_option linter.unusedVariables false
set_option linter.unusedSimpArgs false
theorem Y5 [aG] {w:World} {vp vo:Value} {K no:Nat} {root priv mine yours fo:Nat→Int} {vs:Nat→Value} {ms:Nat→Nat} {fs:Nat→Nat→Int} (hl:Laid Tryz.prog w) (hK:0 < K) (qm:K≤1000) (hno:no≤4000) (hroot:bg root) (gD:bg priv) (iw:bg mine) (kA:bg yours) (hfs: ∀ i,bg (fs i)) (hfo: ∀ i,0≤fo i∧fo i < 65536) (hp:y5 w vp K vs ms fs) (ho:tP w vo no fo):
  Calls Tryz.prog 3 #[.agg ((List.range 32).map fun i=>Value.int .u8 (root i)).toArray, .agg ((List.range 32).map fun i=>Value.int .u8 (priv i)).toArray, .agg ((List.range 32).map fun i=>Value.int .u8 (mine i)).toArray, .agg ((List.range 32).map fun i=>Value.int .u8 (yours i)).toArray,vp,vo] w fun e w'=>e= .returned (.bool true)∧Below w.heap.size w w':=by
 rcases hp with ⟨a1,rfl,e1⟩ | ⟨b1,o1,c1,rfl,Xg,WO,hm1⟩
 ·omega
 have each: ∀ i, ∃ (loc:Nat×Nat) (pv:SV) (cs:List SV),loc.1 < w.heap.size∧cs.all SV.plain=true∧(i < K→fC (2+i) (.inl (.inl pv)) (ms i) (fs i) cs)∧(∀ (g:Where) j x,cs[j]? =some x→w.cell? ⟨loc.1,loc.2+j,none⟩=some (SV.aq g x))∧(i < K→ ∀ g:Where,g (2+i)=loc→SV.aq g pv=vs i)∧ ∀ M:Nat→Prop,M (2+i)→SV.ok M pv:=fun i=>by
  by_cases hi:i < K
  ·obtain ⟨loc,pv,cs,h1,h2,h3,h4,h5,h6⟩:=pick (d:=(b1,o1)) (t:=2+i) Xg (hm1 i hi).2
   exact ⟨loc,pv,cs,h1,h2,fun _=>h3,h4,fun _=>h5,h6⟩
  ·exact ⟨(b1,o1), .inl (.slice none 0 0),[],Xg,rfl,fun h=>absurd h hi,fun g j x hx=>by simp at hx,fun h=>absurd h hi,fun M hM=>SV.aM rfl⟩
 obtain ⟨loc,each⟩:=Classical.axiomOfChoice each
 obtain ⟨pv,each⟩:=Classical.axiomOfChoice each
 obtain ⟨cs,each⟩:=Classical.axiomOfChoice each
 have main: ∀ (uo:AV) (Pq:Nat×Nat) (os:List SV),Pq.1 < w.heap.size→os.all SV.plain=true→(∀ (g:Where) j x,os[j]? =some x→w.cell? ⟨Pq.1,Pq.2+j,none⟩=some (SV.aq g x))→(∀ g:Where,g 1=Pq→AV.aq g uo=vo)→
   ((∃ a,uo=V (.slice a 0 0)∧no=0)∨ ∃ oo co os',uo=Sl 1 oo no co∧no≤co∧some (⟨false,os⟩:aI)=some ⟨false,os'⟩∧ ∀ k,k < no→os'[oo+k]? =some (Sum.inl (.int .u16 (fo k))))→
   Calls Tryz.prog 3 #[.agg ((List.range 32).map fun i=>Value.int .u8 (root i)).toArray, .agg ((List.range 32).map fun i=>Value.int .u8 (priv i)).toArray, .agg ((List.range 32).map fun i=>Value.int .u8 (mine i)).toArray, .agg ((List.range 32).map fun i=>Value.int .u8 (yours i)).toArray, .slice (some ⟨b1,o1,none⟩) K c1,vo] w fun e w'=>e= .returned (.bool true)∧Below w.heap.size w w':=by
  intro uo Pq os hd1 ad1 ad2 huo hvs
  let ins:Nat→Option aI:=fun n=>if n=0 then some ⟨false,(List.range K).map pv⟩ else if n=1 then some ⟨false,os⟩ else if n < 2+K then some ⟨false,cs (n - 2)⟩ else none
  let g:Where:=fun n=>if n=0 then (b1,o1) else if n=1 then Pq else loc (n - 2)
  have g2: ∀ i,g (2+i)=loc i:=fun i=>by show (if 2+i=0 then _ else if 2+i=1 then _ else loc (2+i - 2))=_;rw[if_neg (by omega),if_neg (by omega),show 2+i - 2=i by omega]
  have i2: ∀ i,i < K→ins (2+i)=some ⟨false,cs i⟩:=fun i hi=>by show (if 2+i=0 then _ else if 2+i=1 then _ else if 2+i < 2+K then some (⟨false,cs (2+i - 2)⟩:aI) else none)=_;rw[if_neg (by omega),if_neg (by omega),if_pos (by omega),show 2+i - 2=i by omega]
  have cases': ∀ n b,ins n=some b→(n=0∧b=⟨false,(List.range K).map pv⟩)∨(n=1∧b=⟨false,os⟩)∨ ∃ i,i < K∧n=2+i∧b=⟨false,cs i⟩:=fun n b hb=>by
   have hb:(if n=0 then some (⟨false,(List.range K).map pv⟩:aI) else if n=1 then some ⟨false,os⟩ else if n < 2+K then some (⟨false,cs (n - 2)⟩:aI) else none)=some b:=hb
   split at hb
   ·cases hb;exact .inl ⟨by assumption,rfl⟩
   ·split at hb
    ·cases hb;exact .inr (.inl ⟨by assumption,rfl⟩)
    ·split at hb
     ·cases hb;exact .inr (.inr ⟨n - 2,by omega,by omega,rfl⟩)
     ·cases hb
  have hc:=(Y2 (root:=root) (priv:=priv) (mine:=mine) (yours:=yours) (vo:=uo) (o:=0) (c:=c1) (ins:=ins) (m:=ms) (g:=fs) (pv:=pv) (cs:=cs) (w:=fo) hK qm hno hroot gD iw kA (fun n b hb=>by rcases cases' n b hb with ⟨_,rfl⟩ | ⟨_,rfl⟩ | ⟨_,_,_,rfl⟩<;>rfl) hfo hvs (hcs:=(List.range K).map pv) rfl
   (fun i hi=>by rw[Nat.zero_add,List.getElem?_map,List.getElem?_range hi];rfl) WO (fun i hi=>⟨i2 i hi,(each i).2.1,(each i).2.2.1 hi⟩) hfs
   (fun n hn=>by
    rcases n with _ | _ | n
    ·exact ⟨_,rfl⟩
    ·exact ⟨_,rfl⟩
    ·exact ⟨_,by rw[show n+1+1=2+n by omega];exact i2 n (by omega)⟩)
   (fun n b hb=>by
    rcases cases' n b hb with ⟨rfl,rfl⟩ | ⟨rfl,rfl⟩ | ⟨i,hi,rfl,rfl⟩
    ·refine ⟨by omega,fun x hx=> ?_⟩
     obtain ⟨i,hi,rfl⟩:=List.mem_map.1 hx
     exact (each i).2.2.2.2.2 _ (show 2+i < 2+K by have:=List.mem_range.1 hi;omega)
    ·exact ⟨by omega,aD ad1⟩
    ·exact ⟨by omega,aD (each i).2.1⟩)).call (fun _=>False) g w hl (fun _ _ _ h=>h) (Xf fun t bx ht=>by
    rcases cases' t bx ht with ⟨rfl,rfl⟩ | ⟨rfl,rfl⟩ | ⟨i,hi,rfl,rfl⟩
    ·refine ⟨rfl,Xg,fun i x hx=> ?_⟩
     have hi:i < K:=by have:=(List.getElem?_eq_some_iff.1 hx).1;simpa using this
     have hx:((List.range K).map pv)[i]? =some x:=hx
     rw[List.getElem?_map,List.getElem?_range hi]at hx
     cases hx
     rw[(each i).2.2.2.2.1 hi g (g2 i)]
     exact (hm1 i hi).1
    ·exact ⟨rfl,hd1,fun i x hx=>ad2 g i x hx⟩
    ·refine ⟨rfl,by rw[g2];exact (each i).1,fun j x hx=> ?_⟩
     rw[g2]
     exact (each i).2.2.2.1 g j x hx) (fun t bx ht hrw=>by rcases cases' t bx ht with ⟨_,rfl⟩ | ⟨_,rfl⟩ | ⟨_,_,_,rfl⟩<;>cases hrw)
  have eP:AV.aq g (Sl 0 0 K c1)= .slice (some ⟨b1,o1,none⟩) K c1:=rfl
  simp only[List.map_cons,List.map_nil,Ij,huo g rfl,eP]at hc
  refine hc.mono ?_
  rintro e w' ⟨r,out,g',rfl,⟨rfl,rfl⟩,_,_,_,_,_,hfr⟩
  exact ⟨rfl,Kept.below hfr⟩
 rcases ho with ⟨a2,rfl,e2⟩ | ⟨b2,o2,c2,rfl,lt2,hc2,Y6⟩
 ·exact main (V (.slice a2 0 0)) (b1,o1) [] Xg rfl (fun g j x hx=>by simp at hx) (fun g hg=>rfl) (.inl ⟨a2,rfl,e2⟩)
 ·refine main (Sl 1 0 no c2) (b2,o2) (ah .u16 no fo) lt2 az (fun g j x hx=> ?_) (fun g hg=> ?_) (.inr ⟨0,c2,_,rfl,hc2,rfl,fun k hk=>by rw[Nat.zero_add];exact aE .u16 no fo k hk⟩)
  ·by_cases hj:j < no
   ·rw[aE .u16 no fo j hj]at hx
    obtain rfl:=Option.some.inj hx
    exact Y6 j hj
   ·rw[List.getElem?_eq_none (by rw[af];omega)]at hx;cases hx
  ·show Value.slice (some ⟨(g 1).1,(g 1).2+0,none⟩) no c2=_
   rw[hg];rfl
open Go.ChangeShapes Go.WideShapes Go.ChangeAt Go.RowKit
open Go.bA
set_option linter.unusedVariables false
set_option linter.unusedSimpArgs false
theorem walk [aG] {w:World} {vp vo:Value} {K no:Nat} {root priv mine yours fo:Nat→Int} {vs:Nat→Value} {ms:Nat→Nat} {fs:Nat→Nat→Int} (hl:Laid Tryz.prog w) (hroot:bg root) (gD:bg priv) (iw:bg mine) (kA:bg yours) (hfs: ∀ i,bg (fs i)) (hfo: ∀ i,0≤fo i∧fo i < 65536) (hp:y5 w vp K vs ms fs) (ho:tP w vo no fo):
  Calls Tryz.prog 3 #[.agg ((List.range 32).map fun i=>Value.int .u8 (root i)).toArray, .agg ((List.range 32).map fun i=>Value.int .u8 (priv i)).toArray, .agg ((List.range 32).map fun i=>Value.int .u8 (mine i)).toArray, .agg ((List.range 32).map fun i=>Value.int .u8 (yours i)).toArray,vp,vo] w fun e w'=>e= .returned (.bool true)∧Below w.heap.size w w':=by
 by_cases hq:K=0∨1000 < K∨4000 < no
 ·exact Y4 hl hq hp ho
 ·exact Y5 hl (Nat.pos_of_ne_zero fun h=>hq (.inl h)) (Nat.le_of_not_lt fun h=>hq (.inr (.inl h))) (Nat.le_of_not_lt fun h=>hq (.inr (.inr h))) hroot gD iw kA hfs hfo hp ho
theorem qj {H:Type} {enc:TypeId×Value→H} {W:World} {base:Nat} {v:Value} {d:DataW H} {p:List MemPlace} (hv:Value.okWide Tryz.prog W .any base 23 v) (h:DataW.Trod enc Tryz.prog W 0 (fun _=>true) true 23 v d p):
  ∃ K,bg K∧v= .agg ((List.range 32).map fun i=>Value.int .u8 (K i)).toArray:=by
 obtain ⟨cs,rfl,hcs,_⟩: ∃ cs,v= .agg cs∧cs.size=Tryz.prog.cellsOf 23∧Row.okWide Tryz.prog W .any base 23 cs:=by
  simpa[Value.okWide,Tryz.underlying23] using hv
 rw[Ru]at hcs
 obtain ⟨l⟩:=cs
 obtain ⟨fuel,hf⟩:=h
 have hl:l.length=32:=by simpa using hcs
 have hf:DataW.trod enc Tryz.prog W 0 (fun _=>true) true fuel 23 l=some (d,p):=by simpa[Value.cells] using hf
 obtain ⟨K,hK,e⟩:=Rv hf hl
 exact ⟨K,hK,by rw[e]⟩
theorem TK (os:Os) (args:Array Value):laidMetH Tryz.prog tabs ((World.doorLaid Tryz.prog 4000 os).forCall (fun _ _=>0) ⟨#[],args,[]⟩).memory:=
 laidMetH_of_parts3 (fuel:=8) (laidMet_of_run' 8 (by kernel_rfl) (by kernel_rfl)) (by kernel_rfl) (by kernel_rfl)
theorem lifted (os:Os) (started:os.Started) (H:Type) (enc:TypeId×Value→H):
  ReturnsInHanded {} Tryz.checked os 3 .any (fun w args=>(Rows.lawTalkSpec.pre enc Tryz.prog Tryz.f3 [] false w args∧laidMetH Tryz.prog tabs w)∧sizedMet enc Tryz.prog Tryz.f3 (OpenSpec.ofChange Rows.lawTalkSpec) false w args)
   (Rows.lawTalkSpec.post enc Tryz.prog Tryz.f3 false true false false):=by
 refine returnsInHanded_of_change_and (C:=Tryz.checked) (X:=fun w _=>laidMetH Tryz.prog tabs w) (fun _ _ _ hh h=>h.of_heap hh) own started (by kernel_rfl) Tryz.func3
  (ChangeSpec.witness_shaped (enc:=enc) (C:=Tryz.checked) (os:=os) (X:=fun w _=>laidMetH Tryz.prog tabs w) false (World.doorLaid Tryz.prog 4000 os) #[.agg (List.replicate 32 (Value.int .u8 0)).toArray, .agg (List.replicate 32 (Value.int .u8 0)).toArray, .agg (List.replicate 32 (Value.int .u8 0)).toArray, .agg (List.replicate 32 (Value.int .u8 0)).toArray, .slice none 0 0, .slice none 0 0] 40 rfl (World.shaped_of_RefB (by kernel_rfl) (by kernel_rfl)) (by kernel_rfl) (by kernel_rfl) (by kernel_rfl) (TK os _)) ?_
 intro W base args ds gs before Xh hW _ ad3 hL _
 have hval: ∀ (j:Nat) t v,Tryz.f3.params[j]? =some t→args[j]? =some v→Value.okWide Tryz.prog W .any base t v:=Xh
 have hW':=hW
 have hsz:(DataW.weightsEach Tryz.prog (Tryz.f3.params.toList++Rows.lawTalkSpec.plain.varTypes Tryz.prog) (ds++gs)).all (· ≤reachBytes)=true:=ad3
 obtain ⟨p,q,hA0,hV,rfl,hfz,hnd⟩:=hW
 have hA:DataW.TrodAll enc Tryz.prog W 0 (fun _=>true) true Tryz.f3.params.toList args.toList ds p:=hA0
 rw[Tryz.params3]at hA hval hsz
 obtain ⟨v0,vs0,e0,ds0,p0,q0,hargs,rfl,rfl,h0,r0⟩:=trodAll_cons hA
 obtain ⟨v1,vs1,e1,ds1,p1,q1,rfl,rfl,rfl,h1,r1⟩:=trodAll_cons r0
 obtain ⟨v2,vs2,e2,ds2,p2,q2,rfl,rfl,rfl,h2,r2⟩:=trodAll_cons r1
 obtain ⟨v3,vs3,e3,ds3,p3,q3,rfl,rfl,rfl,h3,r3⟩:=trodAll_cons r2
 obtain ⟨v4,vs4,e4,ds4,p4,q4,rfl,rfl,rfl,h4,r4⟩:=trodAll_cons r3
 obtain ⟨v5,vs5,e5,ds5,p5,q5,rfl,rfl,rfl,h5,r5⟩:=trodAll_cons r4
 obtain ⟨rfl,rfl,rfl⟩:=trodAll_nil r5
 obtain rfl:args= #[v0,v1,v2,v3,v4,v5]:=by cases args;simp_all
 obtain ⟨rfl,rfl⟩:=trodVars_none hV
 have lt0: ∀ x ∈ p0,x.block < W.heap.size:=by obtain ⟨m,hm⟩:=h0;exact DataW.trod_lt m _ _ _ hm
 have Xg: ∀ x ∈ p1,x.block < W.heap.size:=by obtain ⟨m,hm⟩:=h1;exact DataW.trod_lt m _ _ _ hm
 have lt2: ∀ x ∈ p2,x.block < W.heap.size:=by obtain ⟨m,hm⟩:=h2;exact DataW.trod_lt m _ _ _ hm
 have lt3: ∀ x ∈ p3,x.block < W.heap.size:=by obtain ⟨m,hm⟩:=h3;exact DataW.trod_lt m _ _ _ hm
 have lt4: ∀ x ∈ p4,x.block < W.heap.size:=by obtain ⟨m,hm⟩:=h4;exact DataW.trod_lt m _ _ _ hm
 have lt5: ∀ x ∈ p5,x.block < W.heap.size:=by obtain ⟨m,hm⟩:=h5;exact DataW.trod_lt m _ _ _ hm
 obtain ⟨root,k0,rfl⟩:=qj (hval 0 23 v0 rfl rfl) h0
 obtain ⟨priv,k1,rfl⟩:=qj (hval 1 23 v1 rfl rfl) h1
 obtain ⟨mine,k2,rfl⟩:=qj (hval 2 23 v2 rfl rfl) h2
 obtain ⟨yours,k3,rfl⟩:=qj (hval 3 23 v3 rfl rfl) h3
 obtain ⟨a4,aby,abz,rfl⟩:=okWide_slice Tryz.underlying24 (hval 4 24 v4 rfl rfl)
 obtain ⟨a5,abA,abB,rfl⟩:=okWide_slice Tryz.underlying25 (hval 5 25 v5 rfl rfl)
 obtain ⟨K,vs,ms,fs,bfs,i4⟩: ∃ n vs ms fs,(∀ i,bg (fs i))∧y5 W (.slice a4 aby abz) n vs ms fs:=by
  have h4':=h4
  obtain ⟨fuel,X2⟩:=h4'
  obtain ⟨v,n,vs,ms,fs,e,g1,g2⟩:=Oq X2
  obtain rfl:Value.slice a4 aby abz=v:=by simpa[Value.cells] using e
  exact ⟨n,vs,ms,fs,g1,g2⟩
 obtain ⟨no,fo,bfo,i5⟩: ∃ n f,(∀ i,0≤f i∧f i < 65536)∧tP W (.slice a5 abA abB) n f:=by
  have h5':=h5
  obtain ⟨fuel,X2⟩:=h5'
  obtain ⟨v,n,f,e,g1,g2⟩:=JR X2
  obtain rfl:Value.slice a5 abA abB=v:=by simpa[Value.cells] using e
  exact ⟨n,f,g1,g2⟩
 clear hA0 Xh
 obtain ⟨E,hLd⟩:=UI hL
 refine (walk hLd k0 k1 k2 k3 bfs bfo i4 i5).mono fun e W' ⟨he,Y7⟩=> ?_
 subst he
 exact ⟨_,rfl,_,_,_,[],_,[],hW',trodAll_mk1 (shut_bool Tryz.underlying4 _),
  (trodAll_cons_mk (Below.trod laidOut (by kernel_rfl) (of_decide_eq_true (by kernel_rfl)) h0 Y7 lt0) (trodAll_cons_mk (Below.trod laidOut (by kernel_rfl) (of_decide_eq_true (by kernel_rfl)) h1 Y7 Xg) (trodAll_cons_mk (Below.trod laidOut (by kernel_rfl) (of_decide_eq_true (by kernel_rfl)) h2 Y7 lt2) (trodAll_cons_mk (Below.trod laidOut (by kernel_rfl) (of_decide_eq_true (by kernel_rfl)) h3 Y7 lt3) (trodAll_cons_mk (Below.trod laidOut (by kernel_rfl) (of_decide_eq_true (by kernel_rfl)) h4 Y7 lt4) (trodAll_cons_mk (Below.trod laidOut (by kernel_rfl) (of_decide_eq_true (by kernel_rfl)) h5 Y7 lt5) trodAll_mk0)))))),rfl,Y7.frame _,fun h=>by cases h⟩
theorem over:Rows.LawTalkSaid:=
 OpenClaim.holds_of_wide 3 Tryz.f3 rfl rfl rfl rfl rfl rfl rfl ⟨rfl,rfl,rfl,rfl,rfl⟩ rfl rfl rfl rfl rfl (by kernel_rfl) Tryz.func3 (by kernel_rfl)
  (of_decide_eq_true (by kernel_rfl)) (by unfold Func.isWrapper;first | (rw[if_pos (by decide+kernel)];kernel_rfl) | (rw[if_neg (by decide+kernel)];exact ⟨rfl,rfl⟩))
  (fun os started H enc _=>lifted os started H enc)
end Go.Proofs.YtbipdofobgabhaaGreatDoor.lawTalkDone
