/-
  The cells of a frame and of a header, as rules.
-/
import Derived.Test.YtoakenpcooglpaaGreatDoorVcgR1
import Derived.Test.YtoakenpcooglpaaGreatDoorVcgFacts
import Derived.Test.YtoakenpcooglpaaGreatDoorVcgK
import Derived.Test.YtoakenpcooglpaaGreatDoorVcgT
set_option linter.unusedVariables false
set_option linter.unusedSimpArgs false
namespace Go.Proofs.YtoakenpcooglpaaGreatDoor
open Go.cA
set_option linter.unusedSectionVars false
variable [aX]
theorem bF:List.map Sum.inl (List.replicate 32 (Value.int IntKind.u8 0)++List.replicate 2 (Value.int IntKind.u32 0)++List.replicate 1 (Value.slice none 0 0)++List.replicate 32 (Value.int IntKind.u8 0))=iW (fun _=>0) 0 0 (Sum.inl (Value.slice none 0 0)) (fun _=>0):=by
 simp only[List.map_append,aF];rfl
theorem bk:(List.replicate 32 (Sum.inl (Value.int IntKind.u8 0))++List.replicate 2 (Sum.inl (Value.int IntKind.u32 0))++List.replicate 1 (Sum.inl (Value.slice none 0 0))++List.replicate 32 (Sum.inl (Value.int IntKind.u8 0)):List SV)=iW (fun _=>0) 0 0 (Sum.inl (Value.slice none 0 0)) (fun _=>0):=by
 rw[al];rfl
theorem cz:(List.replicate 32 (Sum.inl (Value.int IntKind.u8 0))++List.replicate 2 (Sum.inl (Value.int IntKind.u32 0)):List SV)=kU (fun _=>0) 0 0:=by
 rw[al];rfl
theorem bK:(List.map Sum.inl (List.replicate 32 (Value.int IntKind.u8 0)++List.replicate 2 (Value.int IntKind.u32 0)):List SV)=kU (fun _=>0) 0 0:=by
 rw[List.map_append,aF];rfl
section
variable {g p q r:Nat→Int} {a b x y:Int} {sv sw:SV}
theorem fx {k:IntKind} {n m:Nat} {f:Nat→Int} (h:n≤m):List.take m (ae k n f)=ae k n f:=List.take_of_length_le (by rw[ah];exact h)
theorem fG {k:IntKind} {n m:Nat} {f:Nat→Int} (h:n≤m):List.drop m (ae k n f)=[]:=List.drop_eq_nil_of_le (by rw[ah];exact h)
theorem afc:splice (kU g a b) 0 (ae .u8 32 p)=kU p a b:=by simp[splice,kU,ah,List.take_append,List.drop_append,fx,fG]
theorem afd:splice (kU g a b) 32 [Sum.inl (.int .u32 x)]=kU g x b:=by simp[splice,kU,ah,List.take_append,List.drop_append,fx,fG]
theorem afe:splice (kU g a b) 33 [Sum.inl (.int .u32 x)]=kU g a x:=by simp[splice,kU,ah,List.take_append,List.drop_append,fx,fG]
theorem aff:splice (kU g a b) 0 (kU p x y)=kU p x y:=by simp[splice,kU,ah,List.take_append,List.drop_append,fx,fG]
theorem MO:List.take 34 (kU g a b)=kU g a b:=List.take_of_length_le (by rw[Hj];omega)
theorem afg:splice (iW g a b sv q) 0 (kU p x y)=iW p x y sv q:=by simp[splice,kU,iW,ah,List.take_append,List.drop_append,fx,fG]
theorem afh:splice (iW g a b sv q) 34 [sw]=iW g a b sw q:=by simp[splice,iW,ah,List.take_append,List.drop_append,fx,fG]
theorem afi:splice (iW g a b sv q) 35 (ae .u8 32 r)=iW g a b sv r:=by simp[splice,iW,ah,List.take_append,List.drop_append,fx,fG]
theorem afj:splice (iW g a b sv q) 0 (iW p x y sw r)=iW p x y sw r:=by simp[splice,iW,ah,List.take_append,List.drop_append,fx,fG]
theorem Hm:kU (fun _=>0) 0 0++List.replicate 1 (Sum.inl (Value.slice none 0 0))++List.replicate 32 (Sum.inl (Value.int IntKind.u8 0))=iW (fun _=>0) 0 0 (Sum.inl (Value.slice none 0 0)) (fun _=>0):=by
 rw[← cz,bk]
theorem U7:kU (fun _=>0) 0 0++List.replicate 1 (Sum.inl (Value.slice none 0 0))++ae .u8 32 (fun _=>0)=iW (fun _=>0) 0 0 (Sum.inl (Value.slice none 0 0)) (fun _=>0):=by
 rw[← al,Hm]
theorem U8:(kU g a b)[32]? =some (Sum.inl (.int .u32 a)):=by
 unfold kU;rw[List.getElem?_append_right (by simp[ah])];simp[ah]
theorem U9:(kU g a b)[33]? =some (Sum.inl (.int .u32 b)):=by
 unfold kU;rw[List.getElem?_append_right (by simp[ah])];simp[ah]
theorem aaz:List.take 32 (kU g a b)=ae .u8 32 g:=by simp[kU,ah,List.take_append,fx]
theorem Wb:bE (kU g a b) 0 32 g:=fun i hi=>by
 rw[Nat.zero_add]
 have h:(List.take 32 (kU g a b))[i]? =(kU g a b)[i]? :=List.getElem?_take_of_lt hi
 rw[← h,aaz];exact ay .u8 32 g i hi
theorem FZ:(kU g a b).all SV.plain=true:=by
 simp only[kU,List.all_append,aw,Bool.true_and];rfl
theorem jG:AV.plain (Ag (kU g a b))=true:=by simpa[AV.plain,CV.plain] using (FZ (g:=g) (a:=a) (b:=b))
theorem br:type_of% @bF∧type_of% @bk∧type_of% @Hm∧type_of% @U7∧type_of% @cz∧type_of% @bK∧type_of% @afc∧type_of% @afd∧type_of% @afe∧type_of% @aff∧type_of% @MO∧type_of% @afg∧type_of% @afh∧type_of% @afi∧type_of% @afj∧type_of% @U8∧type_of% @U9∧type_of% @aaz∧type_of% @oI∧type_of% @Hj∧type_of% @U4∧type_of% @ML∧type_of% @U5∧type_of% @O8∧type_of% @O9∧type_of% @tE∧type_of% @su:=
 ⟨@bF, @bk, @Hm, @U7, @cz, @bK, @afc, @afd, @afe, @aff, @MO, @afg, @afh, @afi, @afj, @U8, @U9, @aaz, @oI, @Hj, @U4, @ML, @U5, @O8, @O9, @tE, @su⟩
end
end Go.Proofs.YtoakenpcooglpaaGreatDoor
namespace Go.Proofs.YtoakenpcooglpaaGreatDoor
set_option maxHeartbeats 2000000
set_option maxRecDepth 20000
open Go.cA
set_option linter.unusedSectionVars false
variable [aX]
theorem Pa (x:Int):cB Tryz.prog 128 [I .u8 x] (I .u8 (aS .xor .u8 (gT .u8 x 1) (IntKind.u8.wrap (cr .u8 x 7*27)))):=by
 refine aK Tryz.func128 rfl (by kernel_rfl) (by simp[Tryz.ntmps128]) rfl rfl ?_
 simp only[Tryz.results128,Tryz.vs,Value.oneCell',simprocAttr, -List.reduceReplicate]
theorem oJ (x n:Int) (h0:0≤n) (h1:n≤8):cB Tryz.prog 137 [I .u8 x,I .i64 n] (I .u8 (aS .or .u8 (gT .u8 x n) (cr .u8 x (8 - n)))):=by
 have hw:IntKind.i64.wrap (8 - n)=8 - n:=wrap_i64 _ (by omega) (by omega)
 have h2:(0≤8 - n)=True:=by simp;omega
 have h3:(0≤n)=True:=by simp;omega
 refine aK Tryz.func137 rfl (by kernel_rfl) (by simp[Tryz.ntmps137]) rfl rfl ?_
 simp only[Tryz.results137,hw,h2,h3,Tryz.vs,Value.oneCell',simprocAttr, -List.reduceReplicate]
 kernel_rfl
def ack (x n:Int):Int:=aS .or .u8 (gT .u8 x n) (cr .u8 x (8 - n))
def agD (x:Int):Int:=aS .xor .u8 (aS .xor .u8 (aS .xor .u8 (aS .xor .u8 (aS .xor .u8 x (ack x 1)) (ack x 2)) (ack x 3)) (ack x 4)) 99
theorem BW (x:Int):cB Tryz.prog 129 [I .u8 x] (I .u8 (agD x)):=by
 refine aK Tryz.func129 rfl (by kernel_rfl) (by simp[Tryz.ntmps129]) rfl rfl ?_
 simp only[Tryz.results129,Tryz.vs,Value.oneCell',simprocAttr, -List.reduceReplicate]
 refine (oJ x 1 (by decide) (by decide)).aB ?_
 simp only[Tryz.vs,Value.oneCell',simprocAttr, -List.reduceReplicate]
 refine (oJ x 2 (by decide) (by decide)).aB ?_
 simp only[Tryz.vs,Value.oneCell',simprocAttr, -List.reduceReplicate]
 refine (oJ x 3 (by decide) (by decide)).aB ?_
 simp only[Tryz.vs,Value.oneCell',simprocAttr, -List.reduceReplicate]
 refine (oJ x 4 (by decide) (by decide)).aB ?_
 simp only[Tryz.vs,Value.oneCell',simprocAttr, -List.reduceReplicate]
 rfl
def oc (a b:Nat→Int) (i:Nat):Int:=aS .xor .u8 (a i) (b i)
theorem rl (a b:Nat→Int):cB Tryz.prog 112 [Ag (ae .u8 16 a),Ag (ae .u8 16 b)] (Ag (ae .u8 16 (oc a b))):=by
 refine aK Tryz.func112 rfl (by kernel_rfl) (by simp[Tryz.ntmps112]) rfl rfl ?_
 simp only[Tryz.results112,Tryz.vr,Value.oneCell',simprocAttr, -List.reduceReplicate]
 refine aG 16 (fun k=>[(2,Ptr 0 0),(3,Ptr 1 0),(4,Ptr 2 0),(6,I .i64 k)])
  (fun k=>[(0,⟨true,ae .u8 16 (fun i=>if i < k then oc a b i else a i)⟩),(1,⟨true,ae .u8 16 b⟩),(2,⟨true,ae .u8 16 (fun _=>0)⟩)]) _ ?_ ?_ ?_
 ·simp only[bV,Nat.not_lt_zero,Tryz.vr,Value.oneCell',simprocAttr, -List.reduceReplicate]
 ·intro j hj
  have lf:((j:Int) < 16)=True:=cf (m:=16) hj
  simp only[Tryz.vr,Value.oneCell',simprocAttr, -List.reduceReplicate]
  refine aD (by simp;omega) ?_
  simp only[lf,ay .u8 16 _ j hj,aA .u8 16 _ j hj,Nat.lt_irrefl,bD j (by omega),Tryz.vr,Value.oneCell',simprocAttr, -List.reduceReplicate]
  exact ⟨by kernel_rfl,by omega,congrArg (fun c=>some (aW.mk true c)) (fj (f:=oc a b) (g:=a))⟩
 ·simp only[Tryz.vr,Value.oneCell',simprocAttr, -List.reduceReplicate]
  refine aH (by decide) ?_
  simp only[dG,Tryz.vr,Value.oneCell',simprocAttr, -List.reduceReplicate]
def sA (a:Int):Int:=if 255 < a*2 then aS .xor .i64 (a*2) 283 else a*2
def fe (a b:Int):Nat→Int×Int×Int
 | 0=>(a,b,0)
 | k+1=>(sA (fe a b k).1,(fe a b k).2.1 / 2,if (fe a b k).2.1%2=1 then aS .xor .i64 (fe a b k).2.2 (fe a b k).1 else (fe a b k).2.2)
theorem acm:((List.range 256).all fun n=>decide (0≤sA n)&&decide (sA n < 256))=true:=by kernel_rfl
theorem acn {a:Int} (h:0≤a∧a < 256):0≤sA a∧sA a < 256:=by
 obtain ⟨n,rfl⟩:=Int.eq_ofNat_of_zero_le h.1
 have:=List.all_eq_true.mp acm n (List.mem_range.mpr (by omega))
 simpa using this
theorem BX {a b:Int} (ha:0≤a∧a < 256) (hb:0≤b∧b < 256): ∀ k,(0≤(fe a b k).1∧(fe a b k).1 < 256)∧(0≤(fe a b k).2.1∧(fe a b k).2.1 < 256)
 | 0=>⟨ha,hb⟩
 | k+1=>by
  obtain ⟨h1,h2⟩:=BX ha hb k
  exact ⟨acn h1,by simp only[fe];omega⟩
theorem jH (a b:Int) (ha:0≤a∧a < 256) (hb:0≤b∧b < 256):cB Tryz.prog 116 [I .i64 a,I .i64 b] (I .i64 (fe a b 8).2.2):=by
 refine aK Tryz.func116 rfl (by kernel_rfl) (by simp[Tryz.ntmps116]) rfl rfl ?_
 simp only[Tryz.results116,Tryz.vs,Value.oneCell',simprocAttr, -List.reduceReplicate]
 refine aG 8 (fun k=>[(0,I .i64 (fe a b k).1),(1,I .i64 (fe a b k).2.1),(5,I .i64 (fe a b k).2.2),(6,I .i64 k)]) (fun _=>[]) _ ?_ ?_ ?_
 ·simp only[fe,Tryz.vs,Value.oneCell',simprocAttr, -List.reduceReplicate]
 ·intro k hk
  obtain ⟨h1,h2⟩:=BX ha hb k
  have e:fe a b (k+1)=(sA (fe a b k).1,(fe a b k).2.1 / 2,if (fe a b k).2.1%2=1 then aS .xor .i64 (fe a b k).2.2 (fe a b k).1 else (fe a b k).2.2):=rfl
  rw[e]
  generalize fe a b k=p at*
  obtain ⟨x,y,s⟩:=p
  simp only[]at h1 h2 ⊢
  have hm:y.tmod 2=y%2:=Int.tmod_eq_emod_of_nonneg h2.1
  have hd:IntKind.i64.wrap (y.tdiv 2)=y / 2:=by rw[Int.tdiv_eq_ediv_of_nonneg h2.1,wrap_i64 _ (by omega) (by omega)]
  have hw:IntKind.i64.wrap (x*2)=x*2:=wrap_i64 _ (by omega) (by omega)
  simp only[Tryz.vs,Value.oneCell',simprocAttr, -List.reduceReplicate]
  refine aD (by simp;omega) ?_
  by_cases hy:y%2=1
  ·have c:(y%2==1)=true:=by simp[hy]
   by_cases hx:255 < x*2
   ·have e2:sA x=aS .xor .i64 (x*2) 283:=by rw[sA,if_pos hx]
    simp only[hm,c,hd,hw,bD k (by omega),if_pos hy,e2,Tryz.vs,Value.oneCell',simprocAttr, -List.reduceReplicate]
    refine aD (decide_eq_true hx) ?_
    simp only[hw,bD k (by omega),Tryz.vs,Value.oneCell',simprocAttr, -List.reduceReplicate]
   ·have e2:sA x=x*2:=by rw[sA,if_neg hx]
    simp only[hm,c,hd,hw,bD k (by omega),if_pos hy,e2,Tryz.vs,Value.oneCell',simprocAttr, -List.reduceReplicate]
    refine aH (decide_eq_false hx) ?_
    simp only[hw,bD k (by omega),Tryz.vs,Value.oneCell',simprocAttr, -List.reduceReplicate]
  ·have c:(y%2==1)=false:=by simp;omega
   by_cases hx:255 < x*2
   ·have e2:sA x=aS .xor .i64 (x*2) 283:=by rw[sA,if_pos hx]
    simp only[hm,c,hd,hw,bD k (by omega),if_neg hy,e2,Tryz.vs,Value.oneCell',simprocAttr, -List.reduceReplicate]
    refine aD (decide_eq_true hx) ?_
    simp only[hw,bD k (by omega),Tryz.vs,Value.oneCell',simprocAttr, -List.reduceReplicate]
   ·have e2:sA x=x*2:=by rw[sA,if_neg hx]
    simp only[hm,c,hd,hw,bD k (by omega),if_neg hy,e2,Tryz.vs,Value.oneCell',simprocAttr, -List.reduceReplicate]
    refine aH (decide_eq_false hx) ?_
    simp only[hw,bD k (by omega),Tryz.vs,Value.oneCell',simprocAttr, -List.reduceReplicate]
 ·simp only[Tryz.vs,Value.oneCell',simprocAttr, -List.reduceReplicate]
  refine aH (by decide) ?_
  simp only[Tryz.vs,Value.oneCell',simprocAttr, -List.reduceReplicate]
end Go.Proofs.YtoakenpcooglpaaGreatDoor
namespace Go.Proofs.YtoakenpcooglpaaGreatDoor
set_option maxHeartbeats 2000000
set_option maxRecDepth 20000
open Go.cA
set_option linter.unusedSectionVars false
variable [aX]
def lh (a b:Int):Int:=(fe a b 8).2.2
theorem agE {x y:Int} (hx:0≤x∧x < 256) (hy:0≤y∧y < 256):0≤aS .xor .i64 x y∧aS .xor .i64 x y < 256:=by
 obtain ⟨a,rfl⟩:=Int.eq_ofNat_of_zero_le hx.1
 obtain ⟨b,rfl⟩:=Int.eq_ofNat_of_zero_le hy.1
 have h3:a ^^^ b < 2^8:=Nat.xor_lt_two_pow (by omega) (by omega)
 rw[(rK .i64 a b (by simp[IntKind.bits];omega) (by simp[IntKind.bits];omega)).2.2,wrap_i64 _ (by omega) (by omega)]
 omega
theorem wk {a b:Int} (ha:0≤a∧a < 256) (hb:0≤b∧b < 256): ∀ k,0≤(fe a b k).2.2∧(fe a b k).2.2 < 256
 | 0=>by simp[fe]
 | k+1=>by
  have ih:=wk ha hb k
  have hb:=(BX ha hb k).1
  simp only[fe]
  split
  ·exact agE ih hb
  ·exact ih
theorem sB {a b:Int} (ha:0≤a∧a < 256) (hb:0≤b∧b < 256):0≤lh a b∧lh a b < 256:=wk ha hb 8
def mU (x:Int):Nat→Int
 | 0=>1
 | k+1=>if k < 7 then lh (lh (mU x k) (mU x k)) x else lh (mU x k) (mU x k)
theorem U' {x:Int} (hx:0≤x∧x < 256): ∀ k,0≤mU x k∧mU x k < 256
 | 0=>by simp[mU]
 | k+1=>by
  have ih:=U' hx k
  rw[mU];split
  ·exact sB (sB ih ih) hx
  ·exact sB ih ih
def aco (y:Int):Nat→Int
 | 0=>99
 | k+1=>aS .xor .i64 (aco y k) ((aS .or .i64 (gT .i64 y k) (cr .i64 y (8 - k))).tmod 256)
def dy (x:Nat):Int:=IntKind.u8.wrap (aco (mU x 8) 5)
theorem Hn:cB Tryz.prog 96 [] (Ag (ae .u8 256 dy)):=by
 refine aK Tryz.func96 rfl (by kernel_rfl) (by simp[Tryz.ntmps96]) rfl rfl ?_
 simp only[Tryz.results96,Tryz.vr,Value.oneCell',simprocAttr, -List.reduceReplicate]
 refine aG 256 (fun k=>[(0,Ptr 0 0),(1,Ptr 1 0),(2,I .i64 k)])
  (fun k=>[(0,⟨true,ae .u8 256 (fun _=>0)⟩),(1,⟨true,ae .u8 256 (fun i=>if i < k then dy i else 0)⟩)]) _ ?_ ?_ ?_
 ·simp only[bV,Nat.not_lt_zero,if_false,Tryz.vr,Value.oneCell',simprocAttr, -List.reduceReplicate]
 ·intro k hk
  have hx:0≤(k:Int)∧(k:Int) < 256:=by omega
  have hl:((k:Int) < 256)=True:=cf (m:=256) hk
  have fin:ae .u8 256 (upd (fun i=>if i < k then dy i else 0) k (dy k))=ae .u8 256 (fun i=>if i < k+1 then dy i else 0):=fc
  simp only[Tryz.vr,Value.oneCell',simprocAttr, -List.reduceReplicate]
  refine aD (by simp;omega) ?_
  simp only[Tryz.vr,Value.oneCell',simprocAttr, -List.reduceReplicate]
  refine aG 8 (fun j=>[(0,Ptr 0 0),(1,Ptr 1 0),(2,I .i64 k),(3,I .i64 (mU k j)),(4,I .i64 (7 - j))])
   (fun _=>[(0,⟨true,ae .u8 256 (fun _=>0)⟩),(1,⟨true,ae .u8 256 (fun i=>if i < k then dy i else 0)⟩)]) _ ?_ ?_ ?_
  ·simp only[bV,mU,Tryz.vr,Value.oneCell',simprocAttr, -List.reduceReplicate]
  ·intro j hj
   have hp:=U' hx j
   have hpp:=sB hp hp
   have hw:IntKind.i64.wrap ((7:Int) - j - 1)=7 - ((j+1:Nat):Int):=by rw[wrap_i64 _ (by omega) (by omega)];omega
   have es:mU k (j+1)=if j < 7 then lh (lh (mU k j) (mU k j)) k else lh (mU k j) (mU k j):=rfl
   simp only[Tryz.vr,Value.oneCell',simprocAttr, -List.reduceReplicate]
   refine aD (by simp;omega) ?_
   simp only[Tryz.vr,Value.oneCell',simprocAttr, -List.reduceReplicate]
   refine (jH _ _ hp hp).aB ?_
   by_cases h7:j < 7
   ·simp only[Tryz.vr,Value.oneCell',simprocAttr, -List.reduceReplicate]
    refine aD (by simp;omega) ?_
    simp only[Tryz.vr,Value.oneCell',simprocAttr, -List.reduceReplicate]
    refine (jH _ _ hpp hx).aB ?_
    simp only[hw,es,if_pos h7,Tryz.vr,Value.oneCell',simprocAttr, -List.reduceReplicate]
    rfl
   ·simp only[Tryz.vr,Value.oneCell',simprocAttr, -List.reduceReplicate]
    refine aH (by simp;omega) ?_
    simp only[hw,es,if_neg h7,Tryz.vr,Value.oneCell',simprocAttr, -List.reduceReplicate]
    rfl
  ·simp only[Tryz.vr,Value.oneCell',simprocAttr, -List.reduceReplicate]
   refine aH (by decide) ?_
   simp only[Tryz.vr,Value.oneCell',simprocAttr, -List.reduceReplicate]
   refine aG 5 (fun j=>[(0,Ptr 0 0),(1,Ptr 1 0),(2,I .i64 k),(3,I .i64 (mU k 8)),(5,I .i64 (aco (mU k 8) j)),(6,I .i64 j)])
    (fun _=>[(0,⟨true,ae .u8 256 (fun _=>0)⟩),(1,⟨true,ae .u8 256 (fun i=>if i < k then dy i else 0)⟩)]) _ ?_ ?_ ?_
   ·simp only[bV,aco,Tryz.vr,Value.oneCell',simprocAttr, -List.reduceReplicate]
   ·intro j hj
    have h1:IntKind.u64.wrap (j:Int)=(j:Int):=au _ (by omega) (by omega)
    have h2:IntKind.i64.wrap (8 - (j:Int))=8 - (j:Int):=wrap_i64 _ (by omega) (by omega)
    have h3:IntKind.u64.wrap (8 - (j:Int))=8 - (j:Int):=au _ (by omega) (by omega)
    have h4:(0≤8 - (j:Int))=True:=by simp;omega
    simp only[Tryz.vr,Value.oneCell',simprocAttr, -List.reduceReplicate]
    refine aD (by simp;omega) ?_
    simp only[h1,h2,h3,h4,bD j (by omega),Tryz.vr,Value.oneCell',simprocAttr, -List.reduceReplicate]
    rfl
   ·simp only[Tryz.vr,Value.oneCell',simprocAttr, -List.reduceReplicate]
    refine aH (by decide) ?_
    simp only[hl,aA .u8 256 _ k hk,bD k (by omega),Tryz.vr,Value.oneCell',simprocAttr, -List.reduceReplicate]
    exact ⟨by omega,congrArg (fun c=>some (aW.mk true c)) fin⟩
 ·simp only[Tryz.vr,Value.oneCell',simprocAttr, -List.reduceReplicate]
  refine aH (by decide) ?_
  simp only[dG,Tryz.vr,Value.oneCell',simprocAttr, -List.reduceReplicate]
end Go.Proofs.YtoakenpcooglpaaGreatDoor
namespace Go.Proofs.YtoakenpcooglpaaGreatDoor
set_option maxHeartbeats 2000000
set_option maxRecDepth 20000
open Go.cA
set_option linter.unusedSectionVars false
variable [aX]
def mE (C S:Nat→Int) (i:Nat):Int:=C (S ((i+i%4*4)%16)).toNat
def MP (C S:Nat→Int) (i:Nat):Int:=C (S i).toNat
theorem F0 (C S:Nat→Int) (hS:bY S):bt Tryz.prog 114 [Ptr 0 0,Ag (ae .u8 16 S)] 1 (lk [(0,⟨false,ae .u8 496 C⟩)])
  (fun v out=>v=Ag (ae .u8 16 (mE C S))∧out=fun _=>none):=by
 refine aE Tryz.func114 rfl (by kernel_rfl) (by simp[Tryz.ntmps114]) Tryz.nG (by simp[AV.ok,CV.ok,SV.names];exact aJ aw) eG (eH aw) ?_
 simp only[Tryz.results114,Tryz.vr,Value.oneCell',simprocAttr, -List.reduceReplicate]
 refine aG 16 (fun k=>[(0,Ptr 0 0),(3,Ptr 1 0),(4,Ptr 2 0),(5,Ptr 3 0),(7,I .i64 k)])
  (fun k=>[(0,⟨false,ae .u8 496 C⟩),(1,⟨true,ae .u8 16 S⟩),(2,⟨true,ae .u8 16 (fun _=>0)⟩),(3,⟨true,ae .u8 16 (fun i=>if i < k then mE C S i else 0)⟩)]) _ ?_ ?_ ?_
 ·simp only[bV,Nat.not_lt_zero,Tryz.vr,Value.oneCell',simprocAttr, -List.reduceReplicate]
 ·intro j hj
  have e:(IntKind.i64.wrap ((j:Int)+IntKind.i64.wrap (((j:Int).tmod 4)*4))).tmod 16=(((j+j%4*4)%16:Nat):Int):=by
   have h1:((j:Int).tmod 4)=((j%4:Nat):Int):=by rw[Int.tmod_eq_emod_of_nonneg (by omega)];omega
   rw[h1,wrap_i64 (((j%4:Nat):Int)*4) (by omega) (by omega),wrap_i64 _ (by omega) (by omega),Int.tmod_eq_emod_of_nonneg (by omega)]
   omega
  have hm:(j+j%4*4)%16 < 16:=Nat.mod_lt _ (by decide)
  have hb:=hS ((j+j%4*4)%16)
  have hl:=cf (m:=16) hm
  have hj':=cf (m:=16) hj
  have h1:(0≤S ((j+j%4*4)%16))=True:=by simp;exact hb.1
  have h2:(S ((j+j%4*4)%16) < 256)=True:=by simp;exact hb.2
  have h3:(S ((j+j%4*4)%16)).toNat < 496:=by omega
  have fin:ae .u8 16 (upd (fun i=>if i < j then mE C S i else 0) j (mE C S j))=ae .u8 16 (fun i=>if i < j+1 then mE C S i else 0):=fc
  simp only[Tryz.vr,Value.oneCell',simprocAttr, -List.reduceReplicate]
  refine aD (by simp;omega) ?_
  simp only[e,hl,hj',h1,h2,bD j (by omega),ay .u8 16 _ _ hm,ay .u8 496 _ _ h3,aA .u8 16 _ j hj,Tryz.vr,Value.oneCell',simprocAttr, -List.reduceReplicate]
  exact ⟨by kernel_rfl,by omega,by omega,by omega,congrArg (fun c=>some (aW.mk true c)) fin⟩
 ·simp only[Tryz.vr,Value.oneCell',simprocAttr, -List.reduceReplicate]
  refine aH (by decide) ?_
  simp only[dG,Tryz.vr,Value.oneCell',simprocAttr, -List.reduceReplicate]
  exact aC aw ⟨rfl,rfl⟩
theorem pF (C S:Nat→Int) (hS:bY S):bt Tryz.prog 130 [Ptr 0 0,Ag (ae .u8 4 S)] 1 (lk [(0,⟨false,ae .u8 496 C⟩)])
  (fun v out=>v=Ag (ae .u8 4 (MP C S))∧out=fun _=>none):=by
 refine aE Tryz.func130 rfl (by kernel_rfl) (by simp[Tryz.ntmps130]) Tryz.nM (by simp[AV.ok,CV.ok,SV.names];exact aJ aw) eG (eH aw) ?_
 simp only[Tryz.results130,Tryz.vr,Value.oneCell',simprocAttr, -List.reduceReplicate]
 refine aG 4 (fun k=>[(0,Ptr 0 0),(3,Ptr 1 0),(4,Ptr 2 0),(7,Ag (ae .u8 4 S)),(8,I .i64 k)])
  (fun k=>[(0,⟨false,ae .u8 496 C⟩),(1,⟨true,ae .u8 4 (fun i=>if i < k then MP C S i else S i)⟩),(2,⟨true,ae .u8 4 (fun _=>0)⟩)]) _ ?_ ?_ ?_
 ·simp only[bV,Nat.not_lt_zero,if_false,Tryz.vr,Value.oneCell',simprocAttr, -List.reduceReplicate]
  rfl
 ·intro j hj
  have hb:=hS j
  have hj':=cf (m:=4) hj
  have h1:(0≤S j)=True:=by simp;exact hb.1
  have h2:(S j < 256)=True:=by simp;exact hb.2
  have h3:(S j).toNat < 496:=by omega
  simp only[Tryz.vr,Value.oneCell',simprocAttr, -List.reduceReplicate]
  refine aD (by simp;omega) ?_
  simp only[hj',h1,h2,bD j (by omega),ay .u8 4 _ _ hj,ay .u8 496 _ _ h3,aA .u8 4 _ j hj,Tryz.vr,Value.oneCell',simprocAttr, -List.reduceReplicate]
  exact ⟨by omega,by omega,by omega,congrArg (fun c=>some (aW.mk true c)) (fj (f:=MP C S) (g:=S))⟩
 ·simp only[Tryz.vr,Value.oneCell',simprocAttr, -List.reduceReplicate]
  refine aH (by decide) ?_
  simp only[dG,Tryz.vr,Value.oneCell',simprocAttr, -List.reduceReplicate]
  exact aC aw ⟨rfl,rfl⟩
end Go.Proofs.YtoakenpcooglpaaGreatDoor
namespace Go.Proofs.YtoakenpcooglpaaGreatDoor
set_option maxHeartbeats 4000000
set_option maxRecDepth 20000
open Go.cA
set_option linter.unusedSectionVars false
variable [aX]
def tF (x:Int):Int:=aS .xor .u8 (gT .u8 x 1) (IntKind.u8.wrap (cr .u8 x 7*27))
theorem jk (x:Int):cB Tryz.prog 128 [I .u8 x] (I .u8 (tF x)):=Pa x
def powC:Nat→Int
 | 0=>1
 | k+1=>aS .xor .u8 (powC k) (tF (powC k))
def cbx:Nat→Nat→Int
 | 0=>upd (fun _=>0) 0 (agD 0)
 | k+1=>upd (cbx k) (powC k).toNat (agD (powC ((255 - k)%255)))
def MQ (i:Nat):Int:=cbx 255 i
theorem Pb (x:Int):0≤IntKind.u8.wrap x∧IntKind.u8.wrap x < 256:=by rw[wrap_u8];omega
theorem acp: ∀ k,0≤powC k∧powC k < 256
 | 0=>by simp[powC]
 | k+1=>gq _ _ _
theorem Ho:cB Tryz.prog 110 [] (Ag (ae .u8 256 MQ)):=by
 refine aK Tryz.func110 rfl (by kernel_rfl) (by simp[Tryz.ntmps110]) rfl rfl ?_
 simp only[Tryz.results110,Tryz.vr,Value.oneCell',simprocAttr, -List.reduceReplicate]
 refine aG 255 (fun k=>[(0,Ptr 0 0),(1,Ptr 1 0),(2,I .u8 (powC k)),(7,I .i64 k)])
  (fun k=>[(0,⟨true,ae .u8 256 (fun _=>0)⟩),(1,⟨true,ae .u8 255 (fun i=>if i < k then powC i else 0)⟩)]) _ ?_ ?_ ?_
 ·simp only[bV,powC,Nat.not_lt_zero,if_false,Tryz.vr,Value.oneCell',simprocAttr, -List.reduceReplicate]
 ·intro j hj
  have hj':((j:Int) < 255)=True:=cf (m:=255) hj
  have fin:ae .u8 255 (upd (fun i=>if i < j then powC i else 0) j (powC j))=ae .u8 255 (fun i=>if i < j+1 then powC i else 0):=fc
  simp only[Tryz.vr,Value.oneCell',simprocAttr, -List.reduceReplicate]
  refine aD (by simp;omega) ?_
  simp only[hj',aA .u8 255 _ j hj,Tryz.vr,Value.oneCell',simprocAttr, -List.reduceReplicate]
  refine ⟨by omega, ?_⟩
  refine (jk (powC j)).aB ?_
  simp only[bD j (by omega),Tryz.vr,Value.oneCell',simprocAttr, -List.reduceReplicate]
  exact ⟨rfl,congrArg (fun c=>some (aW.mk true c)) fin⟩
 ·simp only[Tryz.vr,Value.oneCell',simprocAttr, -List.reduceReplicate]
  refine aH (by decide) ?_
  simp only[dG,Tryz.vr,Value.oneCell',simprocAttr, -List.reduceReplicate]
  refine (BW 0).aB ?_
  simp only[aA .u8 256 _ 0 (by decide),Tryz.vr,Value.oneCell',simprocAttr, -List.reduceReplicate]
  refine aG 255 (fun k=>[(0,Ptr 0 0),(1,Ptr 1 0),(4,Ptr 5 0),(20,Ag (ae .u8 255 powC)),(21,I .i64 k)])
   (fun k=>[(0,⟨true,ae .u8 256 (fun _=>0)⟩),(1,⟨true,ae .u8 255 powC⟩),(5,⟨true,ae .u8 256 (cbx k)⟩)]) _ ?_ ?_ ?_
  ·simp only[bV,cbx,Tryz.vr,Value.oneCell',simprocAttr, -List.reduceReplicate]
  ·intro j hj
   have hj':((j:Int) < 255)=True:=cf (m:=255) hj
   have hb:=acp j
   have h1:(0≤powC j)=True:=by simp;exact hb.1
   have h2:(powC j < 256)=True:=by simp;exact hb.2
   have h3:(powC j).toNat < 256:=by omega
   have hq:(255 - j)%255 < 255:=Nat.mod_lt _ (by decide)
   have e:(IntKind.i64.wrap ((255:Int) - j)).tmod 255=(((255 - j)%255:Nat):Int):=by
    rw[wrap_i64 _ (by omega) (by omega),Int.tmod_eq_emod_of_nonneg (by omega)];omega
   simp only[Tryz.vr,Value.oneCell',simprocAttr, -List.reduceReplicate]
   refine aD (by simp;omega) ?_
   simp only[hj',e,ay .u8 255 _ j hj,ay .u8 255 _ _ hq,Tryz.vr,Value.oneCell',simprocAttr, -List.reduceReplicate]
   refine ⟨by omega, ?_⟩
   refine (BW (powC ((255 - j)%255))).aB ?_
   simp only[h1,h2,bD j (by omega),aA .u8 256 _ _ h3,Tryz.vr,Value.oneCell',simprocAttr, -List.reduceReplicate]
   exact ⟨by omega,rfl⟩
  ·simp only[Tryz.vr,Value.oneCell',simprocAttr, -List.reduceReplicate]
   refine aH (by decide) ?_
   simp only[Tryz.vr,Value.oneCell',simprocAttr, -List.reduceReplicate]
   rfl
def lj (S:Nat→Int) (i:Nat):Int:=
 let q:=i - i%4
 aS .xor .u8 (aS .xor .u8 (S i) (tF (aS .xor .u8 (S i) (S (q+(i+1)%4))))) (aS .xor .u8 (aS .xor .u8 (aS .xor .u8 (S q) (S (q+1))) (S (q+2))) (S (q+3)))
theorem Wc (S:Nat→Int):cB Tryz.prog 113 [Ag (ae .u8 16 S)] (Ag (ae .u8 16 (lj S))):=by
 refine aK Tryz.func113 rfl (by kernel_rfl) (by simp[Tryz.ntmps113]) rfl rfl ?_
 simp only[Tryz.results113,Tryz.vr,Value.oneCell',simprocAttr, -List.reduceReplicate]
 refine aG 4 (fun k=>[(1,Ptr 0 0),(2,Ptr 1 0),(3,Ptr 2 0),(4,I .i64 ((4*k:Nat):Int))])
  (fun k=>[(0,⟨true,ae .u8 16 S⟩),(1,⟨true,ae .u8 16 (fun _=>0)⟩),(2,⟨true,ae .u8 16 (fun i=>if i < 4*k then lj S i else 0)⟩)]) _ ?_ ?_ ?_
 ·simp only[bV,Nat.not_lt_zero,Nat.mul_zero,if_false,Tryz.vr,Value.oneCell',simprocAttr, -List.reduceReplicate]
 ·intro j hj
  have l0:4*j < 16:=by omega
  have l1:4*j+1 < 16:=by omega
  have l2:4*j+2 < 16:=by omega
  have l3:4*j+3 < 16:=by omega
  have g0:(((4*j:Nat):Int) < 16)=True:=by simp;omega
  have g1:(((4*j+1:Nat):Int) < 16)=True:=by simp;omega
  have g2:(((4*j+2:Nat):Int) < 16)=True:=by simp;omega
  have g3:(((4*j+3:Nat):Int) < 16)=True:=by simp;omega
  have w1:IntKind.i64.wrap (((4*j:Nat):Int)+1)=((4*j+1:Nat):Int):=by rw[wrap_i64 _ (by omega) (by omega)];omega
  have w2:IntKind.i64.wrap (((4*j:Nat):Int)+2)=((4*j+2:Nat):Int):=by rw[wrap_i64 _ (by omega) (by omega)];omega
  have w3:IntKind.i64.wrap (((4*j:Nat):Int)+3)=((4*j+3:Nat):Int):=by rw[wrap_i64 _ (by omega) (by omega)];omega
  have w4:IntKind.i64.wrap (((4*j:Nat):Int)+4)=((4*(j+1):Nat):Int):=by rw[wrap_i64 _ (by omega) (by omega)];omega
  simp only[Tryz.vr,Value.oneCell',simprocAttr, -List.reduceReplicate]
  refine aD (by simp;omega) ?_
  simp only[g0,g1,g2,g3,w1,w2,w3,ay .u8 16 _ _ l0,ay .u8 16 _ _ l1,ay .u8 16 _ _ l2,ay .u8 16 _ _ l3,Tryz.vr,Value.oneCell',simprocAttr, -List.reduceReplicate]
  have gg:ae .u8 16 (upd (upd (upd (upd (fun i=>if i < 4*j then lj S i else 0) (4*j) (lj S (4*j))) (4*j+1) (lj S (4*j+1))) (4*j+2) (lj S (4*j+2))) (4*j+3) (lj S (4*j+3)))=
    ae .u8 16 (fun i=>if i < 4*(j+1) then lj S i else 0):=aV fun i hi=>by
   simp only[upd]
   repeat' split
   all_goals first
    | rfl
    | (subst_vars;rfl)
    | omega
  have m0:lj S (4*j)=aS .xor .u8 (aS .xor .u8 (S (4*j)) (tF (aS .xor .u8 (S (4*j)) (S (4*j+1))))) (aS .xor .u8 (aS .xor .u8 (aS .xor .u8 (S (4*j)) (S (4*j+1))) (S (4*j+2))) (S (4*j+3))):=by
   simp only[lj,show 4*j - 4*j%4=4*j by omega,show (4*j+1)%4=1 by omega]
  have m1:lj S (4*j+1)=aS .xor .u8 (aS .xor .u8 (S (4*j+1)) (tF (aS .xor .u8 (S (4*j+1)) (S (4*j+2))))) (aS .xor .u8 (aS .xor .u8 (aS .xor .u8 (S (4*j)) (S (4*j+1))) (S (4*j+2))) (S (4*j+3))):=by
   simp only[lj,show 4*j+1 - (4*j+1)%4=4*j by omega,show (4*j+1+1)%4=2 by omega]
  have m2:lj S (4*j+2)=aS .xor .u8 (aS .xor .u8 (S (4*j+2)) (tF (aS .xor .u8 (S (4*j+2)) (S (4*j+3))))) (aS .xor .u8 (aS .xor .u8 (aS .xor .u8 (S (4*j)) (S (4*j+1))) (S (4*j+2))) (S (4*j+3))):=by
   simp only[lj,show 4*j+2 - (4*j+2)%4=4*j by omega,show (4*j+2+1)%4=3 by omega]
  have m3:lj S (4*j+3)=aS .xor .u8 (aS .xor .u8 (S (4*j+3)) (tF (aS .xor .u8 (S (4*j+3)) (S (4*j))))) (aS .xor .u8 (aS .xor .u8 (aS .xor .u8 (S (4*j)) (S (4*j+1))) (S (4*j+2))) (S (4*j+3))):=by
   simp only[lj,show 4*j+3 - (4*j+3)%4=4*j by omega,show (4*j+3+1)%4=0 by omega,Nat.add_zero]
  refine ⟨by kernel_rfl, ?_⟩
  refine (jk _).aB ?_
  simp only[g0, ← m0,aA .u8 16 _ _ l0,Tryz.vr,Value.oneCell',simprocAttr, -List.reduceReplicate]
  refine ⟨by omega, ?_⟩
  refine (jk _).aB ?_
  simp only[g1,w1, ← m1,aA .u8 16 _ _ l1,Tryz.vr,Value.oneCell',simprocAttr, -List.reduceReplicate]
  refine ⟨by omega, ?_⟩
  refine (jk _).aB ?_
  simp only[g2,w2, ← m2,aA .u8 16 _ _ l2,Tryz.vr,Value.oneCell',simprocAttr, -List.reduceReplicate]
  refine ⟨by omega, ?_⟩
  refine (jk _).aB ?_
  simp only[g3,w3,w4, ← m3,aA .u8 16 _ _ l3,Tryz.vr,Value.oneCell',simprocAttr, -List.reduceReplicate]
  exact ⟨by omega,congrArg (fun c=>some (aW.mk true c)) gg⟩
 ·simp only[Tryz.vr,Value.oneCell',simprocAttr, -List.reduceReplicate]
  refine aH (by decide) ?_
  simp only[dG,Tryz.vr,Value.oneCell',simprocAttr, -List.reduceReplicate]
end Go.Proofs.YtoakenpcooglpaaGreatDoor
namespace Go.Proofs.YtoakenpcooglpaaGreatDoor
set_option maxHeartbeats 4000000
set_option maxRecDepth 20000
open Go.cA
set_option linter.unusedSectionVars false
variable [aX]
def fR (S:Nat→Int) (n:Int):Nat→Int
 | 0=>n
 | k+1=>(fR S n k+S (15 - k)) / 256
def gE (S:Nat→Int) (n:Int) (i:Nat):Int:=(fR S n (15 - i)+S i)%256
theorem aaA (S:Nat→Int) (n:Int):bY (gE S n):=fun i=>by simp only[gE];omega
theorem Va (S:Nat→Int) (n:Int): ∀ k,k≤15→fR S n k+fR (gE S n) 1 k=fR S (n+1) k
 | 0,_=>rfl
 | k+1,h=>by
  have ih:=Va S n k (by omega)
  simp only[fR, ← ih,gE,show 15 - (15 - k)=k by omega]
  omega
theorem Wd (S:Nat→Int) (n:Int) (i:Nat) (h:i < 16):gE (gE S n) 1 i=gE S (n+1) i:=by
 have:=Va S n (15 - i) (by omega)
 have e:gE S (n+1) i=(fR S (n+1) (15 - i)+S i)%256:=rfl
 rw[e, ← this]
 simp only[gE]
 omega
theorem Wf (S:Nat→Int) (h:bY S) (i:Nat):gE S 0 i=S i:=by
 have: ∀ k,fR S 0 k=0:=fun k=>by
  induction k with
  | zero=>rfl
  | succ k ih=>simp only[fR,ih];have:=h (15 - k);omega
 simp only[gE,this];have:=h i;omega
theorem wV (S:Nat→Int): ∀ k,(∀ j,j < k→S (15 - j)=255)→fR S 1 k=1
 | 0,_=>rfl
 | k+1,h=>by
  simp only[fR,wV S k (fun j hj=>h j (by omega)),h k (by omega)];rfl
theorem acq (S:Nat→Int) (hS:bY S) (k:Nat) (h:fR S 1 k=0): ∀ m,k≤m→fR S 1 m=0:=fun m hm=>by
 induction m with
 | zero=>rw[show k=0 by omega]at h;exact h
 | succ m ih=>
  by_cases e:k=m+1
  ·rw[← e];exact h
  ·simp only[fR,ih (by omega)];have:=hS (15 - m);omega
theorem CH (S:Nat→Int) (hS:bY S):cB Tryz.prog 89 [Ag (ae .u8 16 S)] (Ag (ae .u8 16 (gE S 1))):=by
 refine aK Tryz.func89 rfl (by kernel_rfl) (by simp[Tryz.ntmps89]) rfl rfl ?_
 simp only[Tryz.results89,Tryz.vr,Value.oneCell',Nat.reduceAdd,Nat.reduceMul,Nat.reduceSub,Nat.reduceLT,Nat.reduceLeDiff,Nat.reduceEqDiff,Int.reduceLE,Int.reduceLT,Int.reduceToNat,Int.reduceNe,Int.reduceEq,Nat.reduceBEq,Nat.reduceDiv,Int.reduceAdd,Int.reduceSub,reduceIte,↓reduceIte,reduceCtorEq]
 refine xS 16 (fun k=> ∀ j,j < k→S (15 - j)=255) (fun k=>[(1,Ptr 0 0),(2,Ptr 1 0),(3,I .i64 (15 - (k:Int)))])
  (fun k=>[(0,⟨true,ae .u8 16 (fun i=>if 16≤i+k then 0 else S i)⟩),(1,⟨true,ae .u8 16 (fun _=>0)⟩)]) _ ?_ ?_ ?_
 ·refine ⟨fun j hj=>absurd hj (Nat.not_lt_zero j), ?_⟩
  simp only[bV,Tryz.vr,Value.oneCell',Nat.reduceAdd,Nat.reduceMul,Nat.reduceSub,Nat.reduceLT,Nat.reduceLeDiff,Nat.reduceEqDiff,Int.reduceLE,Int.reduceLT,Int.reduceToNat,Int.reduceNe,Int.reduceEq,Nat.reduceBEq,Nat.reduceDiv,Int.reduceAdd,Int.reduceSub,reduceIte,↓reduceIte,reduceCtorEq]
  exact congrArg (fun c=>some (aW.mk true c)) (aV fun i hi=>by rw[if_neg (by omega)])
 ·intro k hk hinv
  have p:((15:Int) - (k:Int)).toNat=15 - k:=by omega
  have hl:15 - k < 16:=by omega
  have hc1:(0≤(15:Int) - (k:Int))=True:=by simp;omega
  have hc2:((15:Int) - (k:Int) < 16)=True:=by simp;omega
  have hb:=hS (15 - k)
  have hf:(if 16≤15 - k+k then 0 else S (15 - k))=S (15 - k):=if_neg (by omega)
  have hw:IntKind.i64.wrap ((15:Int) - (k:Int) - 1)=15 - ((k+1:Nat):Int):=by rw[wrap_i64 _ (by omega) (by omega)];omega
  have c1:=wV S k hinv
  simp only[Tryz.vr,Value.oneCell',Nat.reduceAdd,Nat.reduceMul,Nat.reduceSub,Nat.reduceLT,Nat.reduceLeDiff,Nat.reduceEqDiff,Int.reduceLE,Int.reduceLT,Int.reduceToNat,Int.reduceNe,Int.reduceEq,Nat.reduceBEq,Nat.reduceDiv,Int.reduceAdd,Int.reduceSub,reduceIte,↓reduceIte,reduceCtorEq]
  refine aD (by simp;omega) ?_
  simp only[p,hc1,hc2,ay .u8 16 _ _ hl,hf,aA .u8 16 _ _ hl,ax,Tryz.vr,Value.oneCell',Nat.reduceAdd,Nat.reduceMul,Nat.reduceSub,Nat.reduceLT,Nat.reduceLeDiff,Nat.reduceEqDiff,Int.reduceLE,Int.reduceLT,Int.reduceToNat,Int.reduceNe,Int.reduceEq,Nat.reduceBEq,Nat.reduceDiv,Int.reduceAdd,Int.reduceSub,reduceIte,↓reduceIte,reduceCtorEq]
  refine ⟨by omega, ?_⟩
  by_cases ajX:S (15 - k)=255
  ·have hz:IntKind.u8.wrap (S (15 - k)+1)=0:=by rw[ajX];rfl
   simp only[hz,Tryz.vr,Value.oneCell',Nat.reduceAdd,Nat.reduceMul,Nat.reduceSub,Nat.reduceLT,Nat.reduceLeDiff,Nat.reduceEqDiff,Int.reduceLE,Int.reduceLT,Int.reduceToNat,Int.reduceNe,Int.reduceEq,Nat.reduceBEq,Nat.reduceDiv,Int.reduceAdd,Int.reduceSub,reduceIte,↓reduceIte,reduceCtorEq]
   refine aH (by decide) ?_
   simp only[hw,Tryz.vr,Value.oneCell',Nat.reduceAdd,Nat.reduceMul,Nat.reduceSub,Nat.reduceLT,Nat.reduceLeDiff,Nat.reduceEqDiff,Int.reduceLE,Int.reduceLT,Int.reduceToNat,Int.reduceNe,Int.reduceEq,Nat.reduceBEq,Nat.reduceDiv,Int.reduceAdd,Int.reduceSub,reduceIte,↓reduceIte,reduceCtorEq]
   refine ⟨fun j hj=> ?_,congrArg (fun c=>some (aW.mk true c)) (aV fun i hi=> ?_)⟩
   ·rcases Nat.lt_or_ge j k with h | h
    ·exact hinv j h
    ·rw[show j=k by omega];exact ajX
   ·simp only[upd]
    split
    ·rw[if_pos (by omega)]
    ·split
     ·rw[if_pos (by omega)]
     ·rw[if_neg (by omega)]
  ·have hz:IntKind.u8.wrap (S (15 - k)+1)=S (15 - k)+1:=ja _ (by omega) (by omega)
   have c2:fR S 1 (k+1)=0:=by simp only[fR,c1];omega
   simp only[hz,Tryz.vr,Value.oneCell',Nat.reduceAdd,Nat.reduceMul,Nat.reduceSub,Nat.reduceLT,Nat.reduceLeDiff,Nat.reduceEqDiff,Int.reduceLE,Int.reduceLT,Int.reduceToNat,Int.reduceNe,Int.reduceEq,Nat.reduceBEq,Nat.reduceDiv,Int.reduceAdd,Int.reduceSub,reduceIte,↓reduceIte,reduceCtorEq]
   refine aD (by simp;omega) ?_
   simp only[Tryz.vr,Value.oneCell',Nat.reduceAdd,Nat.reduceMul,Nat.reduceSub,Nat.reduceLT,Nat.reduceLeDiff,Nat.reduceEqDiff,Int.reduceLE,Int.reduceLT,Int.reduceToNat,Int.reduceNe,Int.reduceEq,Nat.reduceBEq,Nat.reduceDiv,Int.reduceAdd,Int.reduceSub,reduceIte,↓reduceIte,reduceCtorEq]
   refine congrArg Ag (aV fun i hi=> ?_)
   simp only[upd,gE]
   split
   ·rename_i e
    rw[e,show 15 - (15 - k)=k by omega,c1];omega
   ·split
    ·have e:=hinv (15 - i) (by omega)
     rw[show 15 - (15 - i)=i by omega]at e
     rw[wV S (15 - i) (fun j hj=>hinv j (by omega)),e];rfl
    ·rw[acq S hS (k+1) c2 (15 - i) (by omega)]
     have:=hS i;omega
 ·intro hinv
  simp only[Tryz.vr,Value.oneCell',Nat.reduceAdd,Nat.reduceMul,Nat.reduceSub,Nat.reduceLT,Nat.reduceLeDiff,Nat.reduceEqDiff,Int.reduceLE,Int.reduceLT,Int.reduceToNat,Int.reduceNe,Int.reduceEq,Nat.reduceBEq,Nat.reduceDiv,Int.reduceAdd,Int.reduceSub,reduceIte,↓reduceIte,reduceCtorEq]
  refine aH (by decide) ?_
  simp only[Tryz.vr,Value.oneCell',Nat.reduceAdd,Nat.reduceMul,Nat.reduceSub,Nat.reduceLT,Nat.reduceLeDiff,Nat.reduceEqDiff,Int.reduceLE,Int.reduceLT,Int.reduceToNat,Int.reduceNe,Int.reduceEq,Nat.reduceBEq,Nat.reduceDiv,Int.reduceAdd,Int.reduceSub,reduceIte,↓reduceIte,reduceCtorEq]
  refine congrArg Ag (aV fun i hi=> ?_)
  have e:=hinv (15 - i) (by omega)
  rw[show 15 - (15 - i)=i by omega]at e
  simp only[gE]
  rw[wV S (15 - i) (fun j hj=>hinv j (by omega)),e];rfl
theorem F1 (S:Nat→Int) (hS:bY S) (n:Int) (h0:0≤n) (h1:n < 18446744073709551616):cB Tryz.prog 99 [Ag (ae .u8 16 S),I .u64 n] (Ag (ae .u8 16 (gE S n))):=by
 have hcb: ∀ k,0≤fR S n k∧fR S n k < 18446744073709551616:=fun k=>by
  induction k with
  | zero=>exact ⟨h0,h1⟩
  | succ k ih=>have:=hS (15 - k);simp only[fR];omega
 refine aK Tryz.func99 rfl (by kernel_rfl) (by simp[Tryz.ntmps99]) rfl rfl ?_
 simp only[Tryz.results99,Tryz.vr,Value.oneCell',Nat.reduceAdd,Nat.reduceMul,Nat.reduceSub,Nat.reduceLT,Nat.reduceLeDiff,Nat.reduceEqDiff,Int.reduceLE,Int.reduceLT,Int.reduceToNat,Int.reduceNe,Int.reduceEq,Nat.reduceBEq,Nat.reduceDiv,Int.reduceAdd,Int.reduceSub,reduceIte,↓reduceIte,reduceCtorEq]
 refine aG 16 (fun k=>[(2,Ptr 0 0),(4,Ptr 1 0),(5,I .u64 (fR S n k)),(6,I .i64 (15 - (k:Int)))])
  (fun k=>[(0,⟨true,ae .u8 16 (fun i=>if 16≤i+k then gE S n i else S i)⟩),(1,⟨true,ae .u8 16 (fun _=>0)⟩)]) _ ?_ ?_ ?_
 ·simp only[bV,fR,Tryz.vr,Value.oneCell',Nat.reduceAdd,Nat.reduceMul,Nat.reduceSub,Nat.reduceLT,Nat.reduceLeDiff,Nat.reduceEqDiff,Int.reduceLE,Int.reduceLT,Int.reduceToNat,Int.reduceNe,Int.reduceEq,Nat.reduceBEq,Nat.reduceDiv,Int.reduceAdd,Int.reduceSub,reduceIte,↓reduceIte,reduceCtorEq]
  exact congrArg (fun c=>some (aW.mk true c)) (aV fun i hi=>by rw[if_neg (by omega)])
 ·intro k hk
  have p:((15:Int) - (k:Int)).toNat=15 - k:=by omega
  have hl:15 - k < 16:=by omega
  have hc1:(0≤(15:Int) - (k:Int))=True:=by simp;omega
  have hc2:((15:Int) - (k:Int) < 16)=True:=by simp;omega
  have hb:=hS (15 - k)
  have ajY:=hcb k
  have hf:(if 16≤15 - k+k then gE S n (15 - k) else S (15 - k))=S (15 - k):=if_neg (by omega)
  have hw:IntKind.i64.wrap ((15:Int) - (k:Int) - 1)=15 - ((k+1:Nat):Int):=by rw[wrap_i64 _ (by omega) (by omega)];omega
  have r1:(fR S n k).tmod 256=fR S n k%256:=Int.tmod_eq_emod_of_nonneg ajY.1
  have r2:(fR S n k).tdiv 256=fR S n k / 256:=Int.tdiv_eq_ediv_of_nonneg ajY.1
  have w0:IntKind.u64.wrap (S (15 - k))=S (15 - k):=au _ (by omega) (by omega)
  have w1:IntKind.u64.wrap (fR S n k%256+S (15 - k))=fR S n k%256+S (15 - k):=au _ (by omega) (by omega)
  have w2:IntKind.u8.wrap (fR S n k%256+S (15 - k))=gE S n (15 - k):=by rw[wrap_u8,gE,show 15 - (15 - k)=k by omega];omega
  have r3:(fR S n k%256+S (15 - k)).tdiv 256=(fR S n k%256+S (15 - k)) / 256:=Int.tdiv_eq_ediv_of_nonneg (by omega)
  have w3:IntKind.u64.wrap (fR S n k / 256)=fR S n k / 256:=au _ (by omega) (by omega)
  have w4:IntKind.u64.wrap ((fR S n k%256+S (15 - k)) / 256)=(fR S n k%256+S (15 - k)) / 256:=au _ (by omega) (by omega)
  have w5:IntKind.u64.wrap (fR S n k / 256+(fR S n k%256+S (15 - k)) / 256)=fR S n (k+1):=by rw[au _ (by omega) (by omega),fR];omega
  simp only[Tryz.vr,Value.oneCell',Nat.reduceAdd,Nat.reduceMul,Nat.reduceSub,Nat.reduceLT,Nat.reduceLeDiff,Nat.reduceEqDiff,Int.reduceLE,Int.reduceLT,Int.reduceToNat,Int.reduceNe,Int.reduceEq,Nat.reduceBEq,Nat.reduceDiv,Int.reduceAdd,Int.reduceSub,reduceIte,↓reduceIte,reduceCtorEq]
  refine aD (by simp;omega) ?_
  simp only[p,hc1,hc2,ay .u8 16 _ _ hl,hf,r1,r2,r3,w0,w1,w2,w3,w4,w5,hw,aA .u8 16 _ _ hl,Tryz.vr,Value.oneCell',Nat.reduceAdd,Nat.reduceMul,Nat.reduceSub,Nat.reduceLT,Nat.reduceLeDiff,Nat.reduceEqDiff,Int.reduceLE,Int.reduceLT,Int.reduceToNat,Int.reduceNe,Int.reduceEq,Nat.reduceBEq,Nat.reduceDiv,Int.reduceAdd,Int.reduceSub,reduceIte,↓reduceIte,reduceCtorEq]
  refine ⟨by omega,congrArg (fun c=>some (aW.mk true c)) (aV fun i hi=> ?_)⟩
  simp only[upd]
  split
  ·rename_i e;subst e;rw[if_pos (by omega)]
  ·split
   ·rw[if_pos (by omega)]
   ·rw[if_neg (by omega)]
 ·simp only[Tryz.vr,Value.oneCell',Nat.reduceAdd,Nat.reduceMul,Nat.reduceSub,Nat.reduceLT,Nat.reduceLeDiff,Nat.reduceEqDiff,Int.reduceLE,Int.reduceLT,Int.reduceToNat,Int.reduceNe,Int.reduceEq,Nat.reduceBEq,Nat.reduceDiv,Int.reduceAdd,Int.reduceSub,reduceIte,↓reduceIte,reduceCtorEq]
  refine aH (by decide) ?_
  simp only[Tryz.vr,Value.oneCell',Nat.reduceAdd,Nat.reduceMul,Nat.reduceSub,Nat.reduceLT,Nat.reduceLeDiff,Nat.reduceEqDiff,Int.reduceLE,Int.reduceLT,Int.reduceToNat,Int.reduceNe,Int.reduceEq,Nat.reduceBEq,Nat.reduceDiv,Int.reduceAdd,Int.reduceSub,reduceIte,↓reduceIte,reduceCtorEq]
end Go.Proofs.YtoakenpcooglpaaGreatDoor
namespace Go.Proofs.YtoakenpcooglpaaGreatDoor
set_option maxHeartbeats 8000000
set_option maxRecDepth 20000
open Go.cA
set_option linter.unusedSectionVars false
variable [aX]
theorem BY (t:Nat):(t:Int).tmod 4=((t%4:Nat):Int):=(Int.ofNat_tmod t 4).symm
theorem ajZ (t:Nat) (h:t < 9223372036854775808):IntKind.i64.wrap ((t:Int).tdiv 4)=((t / 4:Nat):Int):=Cv t 4 h
theorem uz (f:Nat→Int):splice [Sum.inl (Value.int IntKind.u8 0),Sum.inl (Value.int IntKind.u8 0),Sum.inl (Value.int IntKind.u8 0),Sum.inl (Value.int IntKind.u8 0)] 0 (ae .u8 4 f)=ae .u8 4 f:=rfl
theorem agG (f:Nat→Int):splice (splice (splice (splice [Sum.inl (Value.int IntKind.u8 0),Sum.inl (Value.int IntKind.u8 0),Sum.inl (Value.int IntKind.u8 0),Sum.inl (Value.int IntKind.u8 0)] 0 [Sum.inl (Value.int .u8 (f 0))])
    1 [Sum.inl (Value.int .u8 (f 1))]) 2 [Sum.inl (Value.int .u8 (f 2))]) 3 [Sum.inl (Value.int .u8 (f 3))]=ae .u8 4 f:=rfl
def Pc (C:Nat→Int) (x:Int):Int:=C x.toNat
def sC (C W:Nat→Int) (p:Int) (i j:Nat):Int:=
  if i%8=0 then (if j=0 then aS .xor .u8 (Pc C (W (4*(i - 1)+1))) p else Pc C (W (4*(i - 1)+(j+1)%4)))
  else if i%8=4 then Pc C (W (4*(i - 1)+j)) else W (4*(i - 1)+j)
def sP:Nat→Int
  | 0=>1
  | k+1=>if (8+k)%8=0 then tF (sP k) else sP k
def fg (C K:Nat→Int):Nat→Nat→Int
  | 0=>fun i=>if i < 32 then K i else 0
  | k+1=>fun i=>if 4*(8+k)≤i∧i < 4*(8+k)+4 then aS .xor .u8 (fg C K k (i - 32)) (sC C (fg C K k) (sP k) (8+k) (i - 4*(8+k))) else fg C K k i
theorem MR {C K:Nat→Int} (hK:bY K): ∀ k,bY (fg C K k)
  | 0=>fun i=>by
    simp only[fg];split
    · exact hK i
    · omega
  | k+1=>fun i=>by
    simp only[fg];split
    · exact gq _ _ _
    · exact MR hK k i
def tG (C W:Nat→Int) (m:Nat):Int:=if 256≤m then W (m - 256) else C m
theorem Pd (C K:Nat→Int) (hC:bY C) (hK:bY K):bt Tryz.prog 111 [Ptr 0 0,Ag (ae .u8 32 K)] 1 (lk [(0,⟨true,ae .u8 496 C⟩)])
    (fun v out=>v= .inr []∧out=lk [(0,⟨true,ae .u8 496 (tG C (fg C K 52))⟩)]):=by
  refine aE Tryz.func111 rfl (by kernel_rfl) (by simp[Tryz.ntmps111]) Tryz.nD (by simp[AV.ok,CV.ok,SV.names];exact aJ aw) eG (eH aw) ?_
  simp only[Tryz.results111,Tryz.vr,Value.oneCell',simprocAttr, -List.reduceReplicate]
  refine aG 32 (fun k=>[(0,Ptr 0 0),(3,Ptr 1 0),(4,Ptr 2 0),(13,Ag (ae .u8 32 K)),(14,I .i64 k)])
    (fun k=>[(0,⟨true,ae .u8 496 C⟩),(1,⟨true,ae .u8 32 K⟩),(2,⟨true,ae .u8 240 (fun i=>if i < k then K i else 0)⟩)]) _ ?_ ?_ ?_
  · simp only[bV,Nat.not_lt_zero,if_false,Tryz.vr,Value.oneCell',simprocAttr, -List.reduceReplicate]
  · intro j hj
    have hj':((j:Int) < 32)=True:=cf (m:=32) hj
    have q1:(((j / 4:Nat):Int) < 60)=True:=by simp;omega
    have q2:(((j%4:Nat):Int) < 4)=True:=by simp;omega
    have hl:j / 4*4+j%4 < 240:=by omega
    simp only[Tryz.vr,Value.oneCell',simprocAttr, -List.reduceReplicate]
    refine aD (by simp;omega) ?_
    have q0:j / 4*4+j%4=j:=by omega
    have fin:ae .u8 240 (upd (fun i=>if i < j then K i else 0) j (K j))=ae .u8 240 (fun i=>if i < j+1 then K i else 0):=fc
    simp only[hj',ajZ j (by omega),BY,q0,q1,q2,bl,ay .u8 32 _ j hj,aA .u8 240 _ j (by omega),bD j (by omega),fin,Tryz.vr,Value.oneCell',simprocAttr, -List.reduceReplicate]
    omega
  · simp only[Tryz.vr,Value.oneCell',simprocAttr, -List.reduceReplicate]
    refine aH (by decide) ?_
    simp only[Tryz.vr,Value.oneCell',simprocAttr, -List.reduceReplicate]
    refine aG 52 (fun k=>[(0,Ptr 0 0),(3,Ptr 1 0),(4,Ptr 2 0),(7,I .u8 (sP k)),(8,I .i64 ((8+k:Nat):Int))])
      (fun k=>[(0,⟨true,ae .u8 496 C⟩),(1,⟨true,ae .u8 32 K⟩),(2,⟨true,ae .u8 240 (fg C K k)⟩)]) _ ?_ ?_ ?_
    · simp only[bV,sP,fg,Tryz.vr,Value.oneCell',simprocAttr, -List.reduceReplicate]
    · intro k hk
      have w1:IntKind.i64.wrap (((8+k:Nat):Int) - 1)=((7+k:Nat):Int):=by rw[wrap_i64 _ (by omega) (by omega)];omega
      have q1:(((7+k:Nat):Int) < 60)=True:=by simp;omega
      have sl:=pL .u8 240 (fg C K k) ((7+k)*4) 4 (by omega)
      have hW:=MR (C:=C) hK k
      simp only[Tryz.vr,Value.oneCell',simprocAttr, -List.reduceReplicate]
      refine aD (by simp;omega) ?_
      simp only[w1,q1,bl,sl,ah,Tryz.vr,Value.oneCell',simprocAttr, -List.reduceReplicate]
      refine ⟨by omega, ?_⟩
      by_cases h0:(8+k)%8=0
      have c0:((((8+k)%8:Nat):Int)==0)=true:=by rw[h0];rfl
      simp only[IZ,c0,uz,ay .u8 4 _ 0 (by decide),ay .u8 4 _ 1 (by decide),ay .u8 4 _ 2 (by decide),ay .u8 4 _ 3 (by decide),Tryz.vr,Value.oneCell',simprocAttr, -List.reduceReplicate]
      refine ⟨by simp[splice],by simp[splice],by simp[splice], ?_⟩
      have hb:=agG (fun i=>fg C K k ((7+k)*4+(i+1)%4))
      simp only[show (0+1)%4=1 from rfl,show (1+1)%4=2 from rfl,show (2+1)%4=3 from rfl,show (3+1)%4=0 from rfl,Nat.add_zero]at hb
      rw[hb]
      have et:ae .u8 4 (upd (MP C (fun i=>fg C K k ((7+k)*4+(i+1)%4))) 0 (aS .xor .u8 (MP C (fun i=>fg C K k ((7+k)*4+(i+1)%4)) 0) (sP k)))=ae .u8 4 (sC C (fg C K k) (sP k) (8+k)):=aV fun i hi=>by
        have e:4*(8+k - 1)=(7+k)*4:=by omega
        simp only[upd,sC,if_pos h0,MP,Pc,e,show (0+1)%4=1 from rfl]
      have ep:sP (k+1)=tF (sP k):=by simp only[sP,if_pos h0]
      refine (pF C (fun i=>fg C K k ((7+k)*4+(i+1)%4)) (fun i=>hW _)).dV (fun _=>0) (dp (rw:=true) (by simp only[af,Tryz.vr,Value.oneCell',simprocAttr, -List.reduceReplicate]) aw) aw (by rfl) ?_
      simp only[uz,ay .u8 4 _ 0 (by decide),aA .u8 4 _ 0 (by decide),Tryz.vr,Value.oneCell',simprocAttr, -List.reduceReplicate]
      refine (jk (sP k)).aB ?_
      simp only[et, ← ep,Tryz.vr,Value.oneCell',simprocAttr, -List.reduceReplicate]
      rotate_left 1
      have c0:((((8+k)%8:Nat):Int)==0)=false:=by simp;omega
      by_cases h4:(8+k)%8=4
      have c4:((((8+k)%8:Nat):Int)==4)=true:=by rw[h4];rfl
      have et:ae .u8 4 (MP C (fun i=>fg C K k ((7+k)*4+i)))=ae .u8 4 (sC C (fg C K k) (sP k) (8+k)):=aV fun i hi=>by
        have e:4*(8+k - 1)=(7+k)*4:=by omega
        simp only[sC,if_neg h0,if_pos h4,MP,Pc,e]
      have ep:sP (k+1)=sP k:=by simp only[sP,if_neg h0]
      simp only[IZ,c0,c4,uz,Tryz.vr,Value.oneCell',simprocAttr, -List.reduceReplicate]
      refine (pF C (fun i=>fg C K k ((7+k)*4+i)) (fun i=>hW _)).dV (fun _=>0) (dp (rw:=true) (by simp only[af,Tryz.vr,Value.oneCell',simprocAttr, -List.reduceReplicate]) aw) aw (by rfl) ?_
      simp only[et,Tryz.vr,Value.oneCell',simprocAttr, -List.reduceReplicate]
      rotate_left 1
      have c4:((((8+k)%8:Nat):Int)==4)=false:=by simp;omega
      have et:ae .u8 4 (fun i=>fg C K k ((7+k)*4+i))=ae .u8 4 (sC C (fg C K k) (sP k) (8+k)):=aV fun i hi=>by
        have e:4*(8+k - 1)=(7+k)*4:=by omega
        simp only[sC,if_neg h0,if_neg h4,e]
      have ep:sP (k+1)=sP k:=by simp only[sP,if_neg h0]
      simp only[IZ,c0,c4,uz,Tryz.vr,Value.oneCell',simprocAttr, -List.reduceReplicate]
      all_goals
        refine aG 4 (fun j=>[(0,Ptr 0 0),(3,Ptr 1 0),(4,Ptr 2 0),(7,I .u8 (sP (k+1))),(8,I .i64 ((8+k:Nat):Int)),(9,Ptr 14 0),(61,I .i64 j)])
          (fun j=>[(0,⟨true,ae .u8 496 C⟩),(1,⟨true,ae .u8 32 K⟩),(2,⟨true,ae .u8 240 (fun m=>if 4*(8+k)≤m∧m < 4*(8+k)+j then fg C K (k+1) m else fg C K k m)⟩),
            (14,⟨true,ae .u8 4 (sC C (fg C K k) (sP k) (8+k))⟩)]) _ ?_ ?_ ?_
      all_goals first
        | (simp only[bV,et,ep,Tryz.vr,Value.oneCell',simprocAttr, -List.reduceReplicate]
           exact congrArg (fun c=>some (aW.mk true c)) (aV fun i hi=>(if_neg (by omega)).symm))
        | (intro j hj
           have w8:IntKind.i64.wrap (((8+k:Nat):Int) - 8)=(k:Int):=by rw[wrap_i64 _ (by omega) (by omega)];omega
           have a1:((k:Int) < 60)=True:=by simp;omega
           have a2:(((8+k:Nat):Int) < 60)=True:=by simp;omega
           have a3:((j:Int) < 4)=True:=cf (m:=4) hj
           have l1:k*4+j < 240:=by omega
           have l2:(8+k)*4+j < 240:=by omega
           have f1:(if 4*(8+k)≤k*4+j∧k*4+j < 4*(8+k)+j then fg C K (k+1) (k*4+j) else fg C K k (k*4+j))=fg C K k (k*4+j):=if_neg (by omega)
           have f2:aS .xor .u8 (fg C K k (k*4+j)) (sC C (fg C K k) (sP k) (8+k) j)=fg C K (k+1) ((8+k)*4+j):=by
             show _=(if 4*(8+k)≤(8+k)*4+j∧(8+k)*4+j < 4*(8+k)+4 then aS .xor .u8 (fg C K k ((8+k)*4+j - 32)) (sC C (fg C K k) (sP k) (8+k) ((8+k)*4+j - 4*(8+k))) else fg C K k ((8+k)*4+j))
             rw[if_pos (by omega),show (8+k)*4+j - 32=k*4+j by omega,show (8+k)*4+j - 4*(8+k)=j by omega]
           simp only[Tryz.vr,Value.oneCell',simprocAttr, -List.reduceReplicate]
           refine aD (by simp;omega) ?_
           simp only[w8,a1,a2,a3,bl,ay .u8 240 _ _ l1,f1,ay .u8 4 _ j hj,f2,aA .u8 240 _ _ l2,bD j (by omega),Tryz.vr,Value.oneCell',simprocAttr, -List.reduceReplicate]
           refine ⟨by kernel_rfl,by omega,congrArg (fun c=>some (aW.mk true c)) (aV fun i hi=> ?_)⟩
           simp only[upd]
           split
           · rename_i e;subst e;rw[if_pos (by omega)]
           · split
             · rw[if_pos (by omega)]
             · rw[if_neg (by omega)])
        | (simp only[Tryz.vr,Value.oneCell',simprocAttr, -List.reduceReplicate]
           refine aH (by decide) ?_
           simp only[Tryz.vr,Value.oneCell',simprocAttr, -List.reduceReplicate]
           refine ⟨by rw[wrap_i64 _ (by omega) (by omega)];exact congrArg (fun x=>some (I .i64 x)) (by omega),congrArg (fun c=>some (aW.mk true c)) (aV fun i hi=> ?_)⟩
           show _=(if 4*(8+k)≤i∧i < 4*(8+k)+4 then aS .xor .u8 (fg C K k (i - 32)) (sC C (fg C K k) (sP k) (8+k) (i - 4*(8+k))) else fg C K k i)
           by_cases hc:4*(8+k)≤i∧i < 4*(8+k)+4
           · rw[if_pos hc,if_pos hc];exact if_pos hc
           · rw[if_neg hc,if_neg hc])
    · simp only[Tryz.vr,Value.oneCell',simprocAttr, -List.reduceReplicate]
      refine aH (by decide) ?_
      simp only[Tryz.vr,Value.oneCell',simprocAttr, -List.reduceReplicate]
      generalize fg C K 52=W
      refine aG 60 (fun k=>[(0,Ptr 0 0),(79,Ag (ae .u8 240 W)),(80,I .i64 k)])
        (fun k=>[(0,⟨true,ae .u8 496 (fun m=>if 256≤m∧m < 256+4*k then W (m - 256) else C m)⟩)]) _ ?_ ?_ ?_
      · simp only[bV,Tryz.vr,Value.oneCell',simprocAttr, -List.reduceReplicate]
        exact congrArg (fun c=>some (aW.mk true c)) (aV fun i hi=>(if_neg (by omega)).symm)
      · intro k hk
        have sl:=pL .u8 240 W (k*4) 4 (by omega)
        have a1:((k:Int) < 60)=True:=cf (m:=60) hk
        have a2:(((k / 4:Nat):Int) < 15)=True:=by simp;omega
        have w2:IntKind.i64.wrap (((k%4:Nat):Int)*4)=((k%4*4:Nat):Int):=by rw[wrap_i64 _ (by omega) (by omega)];omega
        have a3:(((k%4*4:Nat):Int)≤16)=True:=by simp;omega
        simp only[Tryz.vr,Value.oneCell',simprocAttr, -List.reduceReplicate]
        refine aD (by simp;omega) ?_
        have hif:(if 16=k%4*4 then 256+k / 4*16 else 256+k / 4*16+k%4*4)=256+4*k:=by rw[if_neg (by omega)];omega
        have hmin:Nat.min 4 (16 - k%4*4)=4:=Nat.min_eq_left (by omega)
        simp only[a1,bl,sl,ah,BY,ajZ k (by omega),a2,w2,a3,uz,hif,Tryz.vr,Value.oneCell',simprocAttr, -List.reduceReplicate]
        refine ⟨by kernel_rfl,by kernel_rfl, ?_⟩
        refine rH Tryz.bS Tryz.bW (cs:=ae .u8 496 (fun m=>if 256≤m∧m < 256+4*k then W (m - 256) else C m)) (bx:=⟨true,ae .u8 4 (fun i=>W (k*4+i))⟩) (news:=ae .u8 4 (fun i=>W (k*4+i)))
          (by simp only[af,Tryz.vr,Value.oneCell',simprocAttr, -List.reduceReplicate]) (by simp only[af,Tryz.vr,Value.oneCell',simprocAttr, -List.reduceReplicate]) (by rw[ah,hmin]) (fun j u h=>by simpa using h) (by rw[ah,hmin];omega) ?_
        rw[kr .u8 496 4 (256+4*k) _ _ (by omega)]
        simp only[bD k (by omega),Tryz.vr,Value.oneCell',simprocAttr, -List.reduceReplicate]
        refine congrArg (fun c=>some (aW.mk true c)) (aV fun i hi=> ?_)
        by_cases h1:256+4*k≤i∧i < 256+4*k+4
        · rw[if_pos h1,if_pos (by omega),show k*4+(i - (256+4*k))=i - 256 by omega]
        · rw[if_neg h1]
          by_cases h2:256≤i∧i < 256+4*k
          · rw[if_pos h2,if_pos (by omega)]
          · rw[if_neg h2,if_neg (by omega)]
      · simp only[Tryz.vr,Value.oneCell',simprocAttr, -List.reduceReplicate]
        refine aH (by decide) ?_
        simp only[Tryz.vr,Value.oneCell',simprocAttr, -List.reduceReplicate]
        refine sX (cs:=ae .u8 496 (tG C W)) (by decide) rfl ?_ aw ⟨rfl,rfl⟩
        simp only[Tryz.vr,Value.oneCell',simprocAttr, -List.reduceReplicate]
        refine congrArg (fun c=>some (aW.mk true c)) (aV fun i hi=> ?_)
        simp only[tG]
        by_cases h:256≤i
        · rw[if_pos h,if_pos (by omega)]
        · rw[if_neg h,if_neg (by omega)]
end Go.Proofs.YtoakenpcooglpaaGreatDoor
namespace Go.Proofs.YtoakenpcooglpaaGreatDoor
set_option maxHeartbeats 8000000
set_option maxRecDepth 20000
open Go.cA
set_option linter.unusedSectionVars false
variable [aX]
def wF (C:Nat→Int) (r i:Nat):Int:=C (256+r*16+i)
def rm (C S:Nat→Int):Nat→Nat→Int
 | 0=>oc S (wF C 0)
 | k+1=>oc (lj (mE C (rm C S k))) (wF C (k+1))
def aaB (C S:Nat→Int):Nat→Int:=oc (mE C (rm C S 13)) (wF C 14)
theorem BZ (a b:Nat→Int):bY (oc a b):=fun i=>gq .xor (a i) (b i)
theorem MS (C S:Nat→Int): ∀ k,bY (rm C S k)
 | 0=>BZ _ _
 | _+1=>BZ _ _
theorem Wg (C S:Nat→Int):bt Tryz.prog 88 [Ptr 0 0,Ag (ae .u8 16 S)] 1 (lk [(0,⟨false,ae .u8 496 C⟩)])
  (fun v out=>v=Ag (ae .u8 16 (aaB C S))∧out=fun _=>none):=by
 have ks: ∀ r,r < 15→((ae .u8 496 C).drop (256+r*16)).take 16=ae .u8 16 (wF C r):=fun r hr=>pL .u8 496 C (256+r*16) 16 (by omega)
 have k0:=ks 0 (by decide)
 have k14:=ks 14 (by decide)
 simp only[Nat.zero_mul,Nat.add_zero,Nat.reduceMul,Nat.reduceAdd]at k0 k14
 refine aE Tryz.func88 rfl (by kernel_rfl) (by simp[Tryz.ntmps88]) Tryz.qN (by simp[AV.ok,CV.ok,SV.names];exact aJ aw) eG (eH aw) ?_
 simp only[Tryz.results88,k0,Tryz.vr,Value.oneCell',simprocAttr, -List.reduceReplicate]
 refine ⟨by kernel_rfl, ?_⟩
 refine cB.draw (rl S (wF C 0)) Tryz.jB ?_
 simp only[Tryz.vr,Value.oneCell',simprocAttr, -List.reduceReplicate]
 refine aG 13 (fun k=>[(0,Ptr 0 0),(4,Ptr 2 0),(5,Ptr 10 0),(6,I .i64 ((1+k:Nat):Int))])
  (fun k=>[(0,⟨false,ae .u8 496 C⟩),(2,⟨true,ae .u8 16 (fun _=>0)⟩),(10,⟨true,ae .u8 16 (rm C S k)⟩)]) _ ?_ ?_ ?_
 ·simp only[bV,rm,Tryz.vr,Value.oneCell',simprocAttr, -List.reduceReplicate]
 ·intro k hk
  have a1:(((1+k:Nat):Int) < 15)=True:=by simp;omega
  simp only[Tryz.vr,Value.oneCell',simprocAttr, -List.reduceReplicate]
  refine aD (by simp;omega) ?_
  simp only[ks (1+k) (by omega),a1,bl,Tryz.vr,Value.oneCell',simprocAttr, -List.reduceReplicate]
  refine ⟨by kernel_rfl, ?_⟩
  refine (F0 C (rm C S k) (MS C S k)).en (fun _=>0) (dp (rw:=false) (by simp only[af,Tryz.vr,Value.oneCell',simprocAttr, -List.reduceReplicate]) aw) aw (by rfl) (fun M h n _=>h (Ptr 0 0) (by simp)) ?_
  simp only[Tryz.vr,Value.oneCell',simprocAttr, -List.reduceReplicate]
  refine cB.draw (Wc (mE C (rm C S k))) Tryz.nF ?_
  simp only[ks (1+k) (by omega),a1,bl,Tryz.vr,Value.oneCell',simprocAttr, -List.reduceReplicate]
  refine ⟨by omega, ?_⟩
  refine cB.draw (rl (lj (mE C (rm C S k))) (wF C (1+k))) Tryz.jB ?_
  have w1:IntKind.i64.wrap (((1+k:Nat):Int)+1)=((1+(k+1):Nat):Int):=by rw[wrap_i64 _ (by omega) (by omega)];omega
  simp only[w1,Tryz.vr,Value.oneCell',simprocAttr, -List.reduceReplicate]
  rw[Nat.add_comm 1 k]
  rfl
 ·simp only[Tryz.vr,Value.oneCell',simprocAttr, -List.reduceReplicate]
  refine aH (by decide) ?_
  simp only[k14,Tryz.vr,Value.oneCell',simprocAttr, -List.reduceReplicate]
  refine ⟨by kernel_rfl, ?_⟩
  refine (F0 C (rm C S 13) (MS C S 13)).en (fun _=>0) (dp (rw:=false) (by simp only[af,Tryz.vr,Value.oneCell',simprocAttr, -List.reduceReplicate]) aw) aw (by rfl) (fun M h n _=>h (Ptr 0 0) (by simp)) ?_
  simp only[k14,Tryz.vr,Value.oneCell',simprocAttr, -List.reduceReplicate]
  refine cB.draw (rl (mE C (rm C S 13)) (wF C 14)) Tryz.jB ?_
  simp only[Tryz.vr,Value.oneCell',simprocAttr, -List.reduceReplicate]
  exact aC aw ⟨rfl,rfl⟩
def ll (i:Nat):Int:=if 0≤i∧i < 0+256 then MQ (i - 0) else 0
def kc (K:Nat→Int):Nat→Int:=tG ll (fg ll K 52)
theorem Vb: ∀ k,bY (cbx k)
 | 0=>fun i=>by
  simp only[cbx,upd];split
  ·exact gq _ _ _
  ·omega
 | k+1=>fun i=>by
  simp only[cbx,upd];split
  ·exact gq _ _ _
  ·exact Vb k i
theorem aaC:bY ll:=fun i=>by
 simp only[ll];split
 ·exact Vb 255 _
 ·omega
theorem acr (k:IntKind) (n:Nat):List.replicate n (Sum.inl (Value.int k 0):SV)=ae k n (fun _=>0):=by
 apply List.ext_getElem?
 intro i
 by_cases h:i < n
 ·rw[ay k n _ i h];simp[h]
 ·rw[List.getElem?_eq_none (by simp;omega),List.getElem?_eq_none (by rw[ah];omega)]
theorem aaD:splice (ae .u8 496 (fun _=>0)) 0 (ae .u8 256 MQ)=ae .u8 496 ll:=kr .u8 496 256 0 _ _ (by decide)
theorem Hp (K:Nat→Int) (hK:bY K):cB Tryz.prog 87 [Ag (ae .u8 32 K)] (Ag (ae .u8 496 (kc K))):=by
 refine aK Tryz.func87 rfl (by kernel_rfl) (by simp[Tryz.ntmps87]) rfl rfl ?_
 simp only[Tryz.results87,Tryz.vr,Value.oneCell',simprocAttr, -List.reduceReplicate]
 refine Ho.aB ?_
 simp only[acr,aaD,Tryz.vr,Value.oneCell',simprocAttr, -List.reduceReplicate]
 refine (Pd ll K aaC hK).abt (t:=4) (by simp only[af,Tryz.vr,Value.oneCell',simprocAttr, -List.reduceReplicate]) aw aw rfl (by rfl) ?_
 simp only[Tryz.vr,Value.oneCell',simprocAttr, -List.reduceReplicate]
 rfl
end Go.Proofs.YtoakenpcooglpaaGreatDoor
namespace Go.Proofs.YtoakenpcooglpaaGreatDoor
set_option maxHeartbeats 8000000
set_option maxRecDepth 20000
open Go.cA
set_option linter.unusedSectionVars false
variable [aX]
theorem B0 (t:Nat):(t:Int).tmod 32=((t%32:Nat):Int):=(Int.ofNat_tmod t 32).symm
def oW (n:Nat):Nat:=if n%32 < 4 then (if n%4=3 then n - 7 else n - 3) else n - 4
def oe:Nat→Int
 | 0=>1
 | n+1=>if 32≤n∧n%32=0 then lh (oe n) 2 else oe n
def rvB (S W:Nat→Int) (p:Int) (n:Nat):Int:=
 let b:=W (oW n)
 let c:=if n%32 < 4∨16≤n%32∧n%32 < 20 then S b.toNat else b
 aS .xor .u8 (W (n - 32)) (if n%32=0 then aS .xor .u8 c (IntKind.u8.wrap p) else c)
def cG (S K:Nat→Int):Nat→Nat→Int
 | 0=>fun _=>0
 | n+1=>upd (cG S K n) n (if n < 32 then K n else rvB S (cG S K n) (oe n) n)
theorem tH: ∀ n,0≤oe n∧oe n < 256
 | 0=>by simp[oe]
 | n+1=>by
  simp only[oe];split
  ·exact sB (tH n) (by decide)
  ·exact tH n
theorem B2 {S K:Nat→Int} (hK:bY K): ∀ n,bY (cG S K n)
 | 0=>fun _=>by simp[cG]
 | n+1=>fun i=>by
  simp only[cG,upd];split
  ·split
   ·exact hK n
   ·simp only[rvB];exact gq .xor (cG S K n (n - 32)) _
  ·exact B2 hK n i
theorem jO (K S:Nat→Int) (hK:bY K):cB Tryz.prog 97 [Ag (ae .u8 32 K),Ag (ae .u8 256 S)] (Ag (ae .u8 240 (cG S K 240))):=by
 refine aK Tryz.func97 rfl (by kernel_rfl) (by simp[Tryz.ntmps97]) rfl rfl ?_
 simp only[Tryz.results97,Tryz.vr,Value.oneCell',simprocAttr, -List.reduceReplicate]
 refine aG 240 (fun k=>[(2,Ptr 0 0),(3,Ptr 1 0),(4,Ptr 2 0),(5,Ptr 3 0),(6,I .i64 (oe k)),(7,I .i64 k)])
  (fun k=>[(0,⟨true,ae .u8 32 K⟩),(1,⟨true,ae .u8 256 S⟩),(2,⟨true,ae .u8 240 (fun _=>0)⟩),(3,⟨true,ae .u8 240 (cG S K k)⟩)]) _ ?_ ?_ ?_
 ·simp only[bV,oe,cG,Tryz.vr,Value.oneCell',simprocAttr, -List.reduceReplicate]
 ·intro n hn
  have hW:=B2 (S:=S) hK n
  have hp:=tH n
  have l1:((n:Int) < 240)=True:=cf (m:=240) hn
  have ew: ∀ v,cG S K (n+1)=upd (cG S K n) n v→ae .u8 240 (upd (cG S K n) n v)=ae .u8 240 (cG S K (n+1)):=fun v h=>by rw[h]
  simp only[Tryz.vr,Value.oneCell',simprocAttr, -List.reduceReplicate]
  refine aD (by simp;omega) ?_
  by_cases Pe:n < 32
  ·have l2:((n:Int) < 32)=True:=cf (m:=32) Pe
   have d1:oe (n+1)=oe n:=by simp only[oe];rw[if_neg (by omega)]
   have d2:cG S K (n+1)=upd (cG S K n) n (K n):=by simp only[cG,if_pos Pe]
   simp only[Tryz.vr,Value.oneCell',simprocAttr, -List.reduceReplicate]
   refine aD (by simp;omega) ?_
   simp only[l1,l2,bl,ay .u8 32 _ n Pe,aA .u8 240 _ n hn,bD n (by omega),d1,d2,Tryz.vr,Value.oneCell',simprocAttr, -List.reduceReplicate]
   omega
  ·have w4:IntKind.i64.wrap ((n:Int) - 4)=((n - 4:Nat):Int):=by rw[wrap_i64 _ (by omega) (by omega)];omega
   have w3:IntKind.i64.wrap (((n - 4:Nat):Int)+1)=((n - 3:Nat):Int):=by rw[wrap_i64 _ (by omega) (by omega)];omega
   have w7:IntKind.i64.wrap ((n:Int) - 7)=((n - 7:Nat):Int):=by rw[wrap_i64 _ (by omega) (by omega)];omega
   have Pf:IntKind.i64.wrap ((n:Int) - 32)=((n - 32:Nat):Int):=by rw[wrap_i64 _ (by omega) (by omega)];omega
   have l3:(((n - 3:Nat):Int) < 240)=True:=by simp;omega
   have l4:(((n - 4:Nat):Int) < 240)=True:=by simp;omega
   have l7:(((n - 7:Nat):Int) < 240)=True:=by simp;omega
   have l32:(((n - 32:Nat):Int) < 240)=True:=by simp;omega
   have g3:=ay .u8 240 (cG S K n) (n - 3) (by omega)
   have g4:=ay .u8 240 (cG S K n) (n - 4) (by omega)
   have g7:=ay .u8 240 (cG S K n) (n - 7) (by omega)
   have g32:=ay .u8 240 (cG S K n) (n - 32) (by omega)
   simp only[Tryz.vr,Value.oneCell',simprocAttr, -List.reduceReplicate]
   refine aH (by simp;omega) ?_
   simp only[Tryz.vr,Value.oneCell',simprocAttr, -List.reduceReplicate]
   have hb: ∀ m,(0≤cG S K n m)=True∧(cG S K n m < 256)=True∧(ae .u8 256 S)[(cG S K n m).toNat]? =some (Sum.inl (Value.int .u8 (S (cG S K n m).toNat))):=fun m=>by
    have:=hW m
    exact ⟨by simp;exact this.1,by simp;exact this.2,ay .u8 256 S _ (by omega)⟩
   obtain ⟨x1,x2,x3⟩:=hb (n - 3)
   obtain ⟨y1,y2,y3⟩:=hb (n - 4)
   obtain ⟨z1,z2,z3⟩:=hb (n - 7)
   by_cases c4:n%32 < 4
   ·have e4:decide (((n%32:Nat):Int) < 4)=true:=by simp;omega
    by_cases c3:n%4=3
    ·have e3:((((n%4:Nat):Int))==3)=true:=by rw[c3];rfl
     have e0:((((n%32:Nat):Int))==0)=false:=by simp;omega
     have d1:oe (n+1)=oe n:=by simp only[oe];rw[if_neg (by omega)]
     have d2:cG S K (n+1)=upd (cG S K n) n (aS .xor .u8 (cG S K n (n - 32)) (S (cG S K n (n - 7)).toNat)):=by
      simp only[cG,if_neg Pe,rvB,oW,if_pos c4,if_pos c3,if_pos (Or.inl c4:n%32 < 4∨16≤n%32∧n%32 < 20),if_neg (show ¬ n%32=0 by omega)]
     simp only[B0,BY,w4,w3,w7,Pf,e4,e3,e0,l1,l3,l4,l7,l32,bl,g3,g4,g7,g32,z1,z2,z3,bD n (by omega),aA .u8 240 _ n hn,d1,d2,Tryz.vr,Value.oneCell',simprocAttr, -List.reduceReplicate]
     omega
    ·have e3:((((n%4:Nat):Int))==3)=false:=by simp;omega
     by_cases c0:n%32=0
     ·have e0:((((n%32:Nat):Int))==0)=true:=by rw[c0];rfl
      have d1:oe (n+1)=lh (oe n) 2:=by simp only[oe];rw[if_pos (by omega)]
      have d2:cG S K (n+1)=upd (cG S K n) n (aS .xor .u8 (cG S K n (n - 32)) (aS .xor .u8 (S (cG S K n (n - 3)).toNat) (IntKind.u8.wrap (oe n)))):=by
       simp only[cG,if_neg Pe,rvB,oW,if_pos c4,if_neg c3,if_pos (Or.inl c4:n%32 < 4∨16≤n%32∧n%32 < 20),if_pos c0]
      simp only[B0,BY,w4,w3,w7,Pf,e4,e3,e0,l1,l3,l4,l7,l32,bl,g3,g4,g7,g32,x1,x2,x3,bD n (by omega),aA .u8 240 _ n hn,d1,d2,Tryz.vr,Value.oneCell',simprocAttr, -List.reduceReplicate]
      refine (jH (oe n) 2 hp (by decide)).aB ?_
      simp only[B0,BY,w4,w3,w7,Pf,e4,e3,e0,l1,l3,l4,l7,l32,bl,g3,g4,g7,g32,x1,x2,x3,bD n (by omega),aA .u8 240 _ n hn,d1,d2,Tryz.vr,Value.oneCell',simprocAttr, -List.reduceReplicate]
      exact ⟨by omega,rfl⟩
     ·have e0:((((n%32:Nat):Int))==0)=false:=by simp;omega
      have d1:oe (n+1)=oe n:=by simp only[oe];rw[if_neg (by omega)]
      have d2:cG S K (n+1)=upd (cG S K n) n (aS .xor .u8 (cG S K n (n - 32)) (S (cG S K n (n - 3)).toNat)):=by
       simp only[cG,if_neg Pe,rvB,oW,if_pos c4,if_neg c3,if_pos (Or.inl c4:n%32 < 4∨16≤n%32∧n%32 < 20),if_neg c0]
      simp only[B0,BY,w4,w3,w7,Pf,e4,e3,e0,l1,l3,l4,l7,l32,bl,g3,g4,g7,g32,x1,x2,x3,bD n (by omega),aA .u8 240 _ n hn,d1,d2,Tryz.vr,Value.oneCell',simprocAttr, -List.reduceReplicate]
      omega
   ·have e4:decide (((n%32:Nat):Int) < 4)=false:=by simp;omega
    have e0:((((n%32:Nat):Int))==0)=false:=by simp;omega
    have d1:oe (n+1)=oe n:=by simp only[oe];rw[if_neg (by omega)]
    by_cases c16:16≤n%32
    ·have e16:decide (16≤((n%32:Nat):Int))=true:=by simp;omega
     by_cases c20:n%32 < 20
     ·have e20:decide (((n%32:Nat):Int) < 20)=true:=by simp;omega
      have d2:cG S K (n+1)=upd (cG S K n) n (aS .xor .u8 (cG S K n (n - 32)) (S (cG S K n (n - 4)).toNat)):=by
       simp only[cG,if_neg Pe,rvB,oW,if_neg c4,if_pos (Or.inr ⟨c16,c20⟩:n%32 < 4∨16≤n%32∧n%32 < 20),if_neg (show ¬ n%32=0 by omega)]
      simp only[B0,BY,w4,w3,w7,Pf,e4,e16,e20,e0,l1,l3,l4,l7,l32,bl,g3,g4,g7,g32,y1,y2,y3,bD n (by omega),aA .u8 240 _ n hn,d1,d2,Tryz.vr,Value.oneCell',simprocAttr, -List.reduceReplicate]
      omega
     ·have e20:decide (((n%32:Nat):Int) < 20)=false:=by simp;omega
      have d2:cG S K (n+1)=upd (cG S K n) n (aS .xor .u8 (cG S K n (n - 32)) (cG S K n (n - 4))):=by
       simp only[cG,if_neg Pe,rvB,oW,if_neg c4,if_neg (show ¬ (n%32 < 4∨16≤n%32∧n%32 < 20) by omega),if_neg (show ¬ n%32=0 by omega)]
      simp only[B0,BY,w4,w3,w7,Pf,e4,e16,e20,e0,l1,l3,l4,l7,l32,bl,g3,g4,g7,g32,y1,y2,y3,bD n (by omega),aA .u8 240 _ n hn,d1,d2,Tryz.vr,Value.oneCell',simprocAttr, -List.reduceReplicate]
      omega
    ·have e16:decide (16≤((n%32:Nat):Int))=false:=by simp;omega
     have d2:cG S K (n+1)=upd (cG S K n) n (aS .xor .u8 (cG S K n (n - 32)) (cG S K n (n - 4))):=by
      simp only[cG,if_neg Pe,rvB,oW,if_neg c4,if_neg (show ¬ (n%32 < 4∨16≤n%32∧n%32 < 20) by omega),if_neg (show ¬ n%32=0 by omega)]
     simp only[B0,BY,w4,w3,w7,Pf,e4,e16,e0,l1,l3,l4,l7,l32,bl,g3,g4,g7,g32,y1,y2,y3,bD n (by omega),aA .u8 240 _ n hn,d1,d2,Tryz.vr,Value.oneCell',simprocAttr, -List.reduceReplicate]
     omega
 ·simp only[Tryz.vr,Value.oneCell',simprocAttr, -List.reduceReplicate]
  refine aH (by decide) ?_
  simp only[Tryz.vr,Value.oneCell',simprocAttr, -List.reduceReplicate]
end Go.Proofs.YtoakenpcooglpaaGreatDoor
namespace Go.Proofs.YtoakenpcooglpaaGreatDoor
set_option maxHeartbeats 16000000
set_option maxRecDepth 20000
open Go.cA
set_option linter.unusedSectionVars false
variable [aX]
def rn (S O:Nat→Int) (i:Nat):Int:=S (O ((i+4*(i%4))%16)).toNat
def Wh (M:Nat→Int) (i:Nat):Int:=
 aS .xor .u8 (aS .xor .u8 (IntKind.u8.wrap (lh (M i) 2)) (IntKind.u8.wrap (lh (M (i - i%4+(i+1)%4)) 3))) (aS .xor .u8 (M (i - i%4+(i+2)%4)) (M (i - i%4+(i+3)%4)))
def jm (B W S:Nat→Int):Nat→Nat→Int
 | 0=>oc B W
 | r+1=>fun i=>aS .xor .u8 (if r+1=14 then rn S (jm B W S r) i else Wh (rn S (jm B W S r)) i) (W (16*(r+1)+i))
theorem B3 (B W S:Nat→Int): ∀ r,bY (jm B W S r)
 | 0=>BZ _ _
 | r+1=>fun i=>by simp only[jm];exact gq .xor _ (W (16*(r+1)+i))
theorem rp (B W S:Nat→Int) (hS:bY S): ∀ r:Nat,r≤14→cB Tryz.prog 98 [Ag (ae .u8 16 B),Ag (ae .u8 240 W),Ag (ae .u8 256 S),I .i64 r] (Ag (ae .u8 16 (jm B W S r)))
 | 0,_=>by
  refine aK Tryz.func98 rfl (by kernel_rfl) (by simp[Tryz.ntmps98]) rfl rfl ?_
  simp only[Tryz.results98,Tryz.vr,Value.oneCell',simprocAttr, -List.reduceReplicate]
  refine aD (by simp) ?_
  simp only[Tryz.vr,Value.oneCell',simprocAttr, -List.reduceReplicate]
  refine aG 16 (fun k=>[(4,Ptr 0 0),(5,Ptr 1 0),(8,Ptr 3 0),(9,I .i64 k)])
   (fun k=>[(0,⟨true,ae .u8 16 (fun i=>if i < k then oc B W i else B i)⟩),(1,⟨true,ae .u8 240 W⟩),(3,⟨true,ae .u8 16 (fun _=>0)⟩)]) _ ?_ ?_ ?_
  ·simp only[bV,Nat.not_lt_zero,if_false,Tryz.vr,Value.oneCell',simprocAttr, -List.reduceReplicate]
  ·intro k hk
   have l1:((k:Int) < 16)=True:=cf (m:=16) hk
   have l2:((k:Int) < 240)=True:=eq_true (by omega)
   simp only[Tryz.vr,Value.oneCell',simprocAttr, -List.reduceReplicate]
   refine aD (by simp;omega) ?_
   simp only[l1,l2,bl,ay .u8 16 _ k hk,ay .u8 240 _ k (by omega),Nat.lt_irrefl,if_false,aA .u8 16 _ k hk,bD k (by omega),Tryz.vr,Value.oneCell',simprocAttr, -List.reduceReplicate]
   exact ⟨by kernel_rfl,by omega,congrArg (fun c=>some (aW.mk true c)) (fj (f:=oc B W) (g:=B))⟩
  ·simp only[Tryz.vr,Value.oneCell',simprocAttr, -List.reduceReplicate]
   refine aH (by decide) ?_
   simp only[dG,Tryz.vr,Value.oneCell',simprocAttr, -List.reduceReplicate]
   rfl
 | r+1,hr=>by
  have ih:=rp B W S hS r (by omega)
  have hO:=B3 B W S r
  have wr:IntKind.i64.wrap (((r+1:Nat):Int) - 1)=(r:Int):=by rw[wrap_i64 _ (by omega) (by omega)];omega
  refine aK Tryz.func98 rfl (by kernel_rfl) (by simp[Tryz.ntmps98]) rfl rfl ?_
  simp only[Tryz.results98,Tryz.vr,Value.oneCell',simprocAttr, -List.reduceReplicate]
  refine aH (by simp) ?_
  simp only[wr,Tryz.vr,Value.oneCell',simprocAttr, -List.reduceReplicate]
  refine ih.aB ?_
  generalize hOe:jm B W S r=O at*
  simp only[Tryz.vr,Value.oneCell',simprocAttr, -List.reduceReplicate]
  refine aG 16 (fun k=>[(3,I .i64 ((r+1:Nat):Int)),(5,Ptr 1 0),(6,Ptr 2 0),(8,Ptr 3 0),(10,Ptr 12 0),(11,Ptr 14 0),(12,Ptr 15 0),(13,I .i64 k)])
   (fun k=>[(1,⟨true,ae .u8 240 W⟩),(2,⟨true,ae .u8 256 S⟩),(3,⟨true,ae .u8 16 (fun _=>0)⟩),(12,⟨true,ae .u8 16 O⟩),(14,⟨true,ae .u8 16 (fun i=>if i < k then rn S O i else 0)⟩),(15,⟨true,ae .u8 16 (fun _=>0)⟩)]) _ ?_ ?_ ?_
  ·simp only[bV,Nat.not_lt_zero,if_false,Tryz.vr,Value.oneCell',simprocAttr, -List.reduceReplicate]
  ·intro k hk
   have e:(IntKind.i64.wrap ((k:Int)+IntKind.i64.wrap (4*((k:Int).tmod 4)))).tmod 16=(((k+4*(k%4))%16:Nat):Int):=by
    have h1:((k:Int).tmod 4)=((k%4:Nat):Int):=BY k
    rw[h1,wrap_i64 (4*((k%4:Nat):Int)) (by omega) (by omega),wrap_i64 _ (by omega) (by omega),Int.tmod_eq_emod_of_nonneg (by omega)]
    omega
   have hm:(k+4*(k%4))%16 < 16:=Nat.mod_lt _ (by decide)
   have lm:((((k+4*(k%4))%16:Nat):Int) < 16)=True:=by simp;omega
   have l1:((k:Int) < 16)=True:=cf (m:=16) hk
   have hb:=hO ((k+4*(k%4))%16)
   have h1:(0≤O ((k+4*(k%4))%16))=True:=by simp;exact hb.1
   have h2:(O ((k+4*(k%4))%16) < 256)=True:=by simp;exact hb.2
   have h3:(O ((k+4*(k%4))%16)).toNat < 256:=by omega
   have fin:ae .u8 16 (upd (fun i=>if i < k then rn S O i else 0) k (rn S O k))=ae .u8 16 (fun i=>if i < k+1 then rn S O i else 0):=fc
   simp only[Tryz.vr,Value.oneCell',simprocAttr, -List.reduceReplicate]
   refine aD (by simp;omega) ?_
   simp only[e,l1,lm,h1,h2,bl,ay .u8 16 _ _ hm,ay .u8 256 _ _ h3,aA .u8 16 _ k hk,bD k (by omega),Tryz.vr,Value.oneCell',simprocAttr, -List.reduceReplicate]
   exact ⟨by omega,congrArg (fun c=>some (aW.mk true c)) fin⟩
  ·simp only[Tryz.vr,Value.oneCell',simprocAttr, -List.reduceReplicate]
   refine aH (by decide) ?_
   simp only[dG,Tryz.vr,Value.oneCell',simprocAttr, -List.reduceReplicate]
   have hM:bY (rn S O):=fun i=>hS _
   generalize hMe:rn S O=M at*
   refine aG 16 (fun k=>[(3,I .i64 ((r+1:Nat):Int)),(5,Ptr 1 0),(8,Ptr 3 0),(11,Ptr 14 0),(12,Ptr 15 0),(14,I .i64 k)])
    (fun k=>[(1,⟨true,ae .u8 240 W⟩),(3,⟨true,ae .u8 16 (fun _=>0)⟩),(14,⟨true,ae .u8 16 M⟩),(15,⟨true,ae .u8 16 (fun i=>if i < k then jm B W S (r+1) i else 0)⟩)]) _ ?_ ?_ ?_
   ·simp only[bV,Nat.not_lt_zero,if_false,Tryz.vr,Value.oneCell',simprocAttr, -List.reduceReplicate]
   ·intro k hk
    have l1:((k:Int) < 16)=True:=cf (m:=16) hk
    have wc:IntKind.i64.wrap ((k:Int) - ((k%4:Nat):Int))=((k - k%4:Nat):Int):=by rw[wrap_i64 _ (by omega) (by omega)];omega
    have p1:IntKind.i64.wrap ((k:Int)+1)=((k+1:Nat):Int):=bD k (by omega)
    have p2:IntKind.i64.wrap ((k:Int)+2)=((k+2:Nat):Int):=by rw[wrap_i64 _ (by omega) (by omega)];omega
    have p3:IntKind.i64.wrap ((k:Int)+3)=((k+3:Nat):Int):=by rw[wrap_i64 _ (by omega) (by omega)];omega
    have pd: ∀ d,IntKind.i64.wrap (((k - k%4:Nat):Int)+(((k+d)%4:Nat):Int))=((k - k%4+(k+d)%4:Nat):Int):=fun d=>by rw[wrap_i64 _ (by omega) (by omega)];omega
    have ld: ∀ d,(((k - k%4+(k+d)%4:Nat):Int) < 16)=True:=fun d=>eq_true (by omega)
    have gd: ∀ d,(ae .u8 16 M)[k - k%4+(k+d)%4]? =some (Sum.inl (Value.int .u8 (M (k - k%4+(k+d)%4)))):=fun d=>ay .u8 16 M _ (by omega)
    have wM: ∀ m,IntKind.i64.wrap (M m)=M m:=fun m=>by have:=hM m;rw[wrap_i64 _ (by omega) (by omega)]
    have WC:IntKind.i64.wrap (16*((r+1:Nat):Int))=((16*(r+1):Nat):Int):=by rw[wrap_i64 _ (by omega) (by omega)];omega
    have wrk:IntKind.i64.wrap (((16*(r+1):Nat):Int)+(k:Int))=((16*(r+1)+k:Nat):Int):=by rw[wrap_i64 _ (by omega) (by omega)];omega
    have lrk:(((16*(r+1)+k:Nat):Int) < 240)=True:=eq_true (by omega)
    have grk:(ae .u8 240 W)[16*(r+1)+k]? =some (Sum.inl (Value.int .u8 (W (16*(r+1)+k)))):=ay .u8 240 W _ (by omega)
    have em:aS .xor .u8 (aS .xor .u8 (IntKind.u8.wrap (fe (M k) 2 8).2.2) (IntKind.u8.wrap (fe (M (k - k%4+(k+1)%4)) 3 8).2.2)) (aS .xor .u8 (M (k - k%4+(k+2)%4)) (M (k - k%4+(k+3)%4)))=Wh M k:=rfl
    have uu: ∀ (f:Nat→Int) (x y:Int),upd (upd f k x) k y=upd f k y:=fun f x y=>by funext m;simp only[upd];split<;>rfl
    simp only[Tryz.vr,Value.oneCell',simprocAttr, -List.reduceReplicate]
    refine aD (by simp;omega) ?_
    simp only[BY,l1,bl,ay .u8 16 _ k hk,wc,p1,p2,p3,pd,ld,gd,wM,Tryz.vr,Value.oneCell',simprocAttr, -List.reduceReplicate]
    refine ⟨by kernel_rfl, ?_⟩
    refine (jH (M k) 2 (hM k) (by decide)).aB ?_
    simp only[wM,Tryz.vr,Value.oneCell',simprocAttr, -List.reduceReplicate]
    refine (jH (M (k - k%4+(k+1)%4)) 3 (hM _) (by decide)).aB ?_
    simp only[em,l1,bl,aA .u8 16 _ k hk,Tryz.vr,Value.oneCell',simprocAttr, -List.reduceReplicate]
    refine ⟨by omega, ?_⟩
    by_cases h14:r+1=14
    ·have e14:(((r+1:Nat):Int)==14)=true:=by rw[h14];rfl
     have ev:jm B W S (r+1) k=aS .xor .u8 (M k) (W (16*(r+1)+k)):=by simp only[jm,if_pos h14,hOe,hMe]
     have fin:ae .u8 16 (upd (fun i=>if i < k then jm B W S (r+1) i else 0) k (jm B W S (r+1) k))=ae .u8 16 (fun i=>if i < k+1 then jm B W S (r+1) i else 0):=fc
     rw[ev]at fin
     simp only[e14,l1,bl,ay .u8 16 _ k hk,aA .u8 16 _ k hk,ax,uu,WC,wrk,lrk,grk,p1,fin,Tryz.vr,Value.oneCell',simprocAttr, -List.reduceReplicate]
     exact ⟨by omega,by kernel_rfl,by omega⟩
    ·have e14:(((r+1:Nat):Int)==14)=false:=by simp;omega
     have ev:jm B W S (r+1) k=aS .xor .u8 (Wh M k) (W (16*(r+1)+k)):=by simp only[jm,if_neg h14,hOe,hMe]
     have fin:ae .u8 16 (upd (fun i=>if i < k then jm B W S (r+1) i else 0) k (jm B W S (r+1) k))=ae .u8 16 (fun i=>if i < k+1 then jm B W S (r+1) i else 0):=fc
     rw[ev]at fin
     simp only[e14,l1,bl,ay .u8 16 _ k hk,aA .u8 16 _ k hk,ax,uu,WC,wrk,lrk,grk,p1,fin,Tryz.vr,Value.oneCell',simprocAttr, -List.reduceReplicate]
     exact ⟨by kernel_rfl,by omega⟩
   ·simp only[Tryz.vr,Value.oneCell',simprocAttr, -List.reduceReplicate]
    refine aH (by decide) ?_
    simp only[dG,Tryz.vr,Value.oneCell',simprocAttr, -List.reduceReplicate]
end Go.Proofs.YtoakenpcooglpaaGreatDoor
namespace Go.Proofs.YtoakenpcooglpaaGreatDoor
set_option maxRecDepth 100000
open Go.cA
set_option linter.unusedSectionVars false
variable [aX]
def aj0:List Int:=[99,124,119,123,242,107,111,197,48,1,103,43,254,215,171,118,202,130,201,125,250,89,71,240,173,212,162,175,156,164,114,192,183,253,147,38,54,63,247,204,52,165,229,241,113,216,49,21,4,199,35,195,24,150,5,154,7,18,128,226,235,39,178,117,9,131,44,26,27,110,90,160,82,59,214,179,41,227,47,132,83,209,0,237,32,252,177,91,106,203,190,57,74,76,88,207,208,239,170,251,67,77,51,133,69,249,2,127,80,60,159,168,81,163,64,143,146,157,56,245,188,182,218,33,16,255,243,210,205,12,19,236,95,151,68,23,196,167,126,61,100,93,25,115,96,129,79,220,34,42,144,136,70,238,184,20,222,94,11,219,224,50,58,10,73,6,36,92,194,211,172,98,145,149,228,121,231,200,55,109,141,213,78,169,108,86,244,234,101,122,174,8,186,120,37,46,28,166,180,198,232,221,116,31,75,189,139,138,112,62,181,102,72,3,246,14,97,53,87,185,134,193,29,158,225,248,152,17,105,217,142,148,155,30,135,233,206,85,40,223,140,161,137,13,191,230,66,104,65,153,45,15,176,84,187,22]
theorem acs:((List.range 256).all fun i=>decide (dy i=aj0.getD i 0))=true:=by kernel_rfl
theorem acu:((List.range 256).all fun i=>decide (MQ i=aj0.getD i 0))=true:=by kernel_rfl
end Go.Proofs.YtoakenpcooglpaaGreatDoor
namespace Go.Proofs.YtoakenpcooglpaaGreatDoor
open Go.cA
set_option linter.unusedSectionVars false
variable [aX]
theorem agJ {i:Nat} (h:i < 256):MQ i=dy i:=by
 have h1:=of_decide_eq_true (List.all_eq_true.1 acs i (List.mem_range.2 h))
 have h2:=of_decide_eq_true (List.all_eq_true.1 acu i (List.mem_range.2 h))
 rw[h1,h2]
theorem B4:bY dy:=fun i=>by simp only[dy];exact Pb _
theorem Hq {x:Int} (h:0≤x∧x < 256):Pc ll x=dy x.toNat:=by
 simp only[Pc,ll]
 rw[if_pos (by omega),Nat.sub_zero,agJ (by omega)]
def sD (x:Nat):Nat:=(x <<< 1)%256 ^^^ (if x.testBit 7 then 27 else 0)
theorem Vc:((List.range 256).all fun x=>decide (tF (x:Int)=((sD x:Nat):Int))&&(decide (lh (x:Int) 2=((sD x:Nat):Int))&&decide (lh (x:Int) 3=((sD x ^^^ x:Nat):Int))))=true:=by kernel_rfl
theorem wW (x:Nat):sD x < 256:=by
 unfold sD
 exact Nat.xor_lt_two_pow (n:=8) (by omega) (by split<;>decide)
theorem aaE (x y:Nat):sD (x ^^^ y)=sD x ^^^ sD y:=by
 have h1:((x ^^^ y) <<< 1)%256=(x <<< 1)%256 ^^^ (y <<< 1)%256:=by
  rw[Nat.shiftLeft_xor_distrib]
  exact Nat.xor_mod_two_pow (n:=8)
 unfold sD
 rw[h1,Nat.testBit_xor]
 apply Nat.eq_of_testBit_eq
 intro j
 cases x.testBit 7<;>cases y.testBit 7<;>simp only[Nat.testBit_xor,Bool.xor_false,Bool.false_xor,Bool.xor_true,Bool.not_true,Bool.not_false,if_true,if_false,Nat.zero_testBit,Bool.false_eq_true]<;>
  cases (x <<< 1%256).testBit j<;>cases (y <<< 1%256).testBit j<;>cases (27:Nat).testBit j<;>rfl
theorem aaF {x:Int} (h:0≤x∧x < 256): ∃ n:Nat,x=(n:Int)∧n < 256:=⟨x.toNat,by omega,by omega⟩
theorem Hr (x y:Nat) (hx:x < 256) (hy:y < 256):aS .xor .u8 (x:Int) (y:Int)=((x ^^^ y:Nat):Int):=(abu x y hx hy).2.2
theorem xlt {x y:Nat} (hx:x < 256) (hy:y < 256):x ^^^ y < 256:=Nat.xor_lt_two_pow (n:=8) hx hy
theorem sE (a b c d:Nat) (ha:a < 256) (hb:b < 256) (hc:c < 256) (hd:d < 256) (all:Nat) (hall:all=a ^^^ b ^^^ c ^^^ d):
  aS .xor .u8 (aS .xor .u8 (a:Int) (tF (aS .xor .u8 (a:Int) (b:Int)))) (all:Int)=
   aS .xor .u8 (aS .xor .u8 (IntKind.u8.wrap (lh (a:Int) 2)) (IntKind.u8.wrap (lh (b:Int) 3))) (aS .xor .u8 (c:Int) (d:Int)):=by
 have t:=fun (x:Nat) (hx:x < 256)=>List.all_eq_true.1 Vc x (List.mem_range.2 hx)
 have t1: ∀ x:Nat,x < 256→tF (x:Int)=((sD x:Nat):Int):=fun x hx=>by have:=t x hx;simp only[Bool.and_eq_true,decide_eq_true_eq]at this;exact this.1
 have t2: ∀ x:Nat,x < 256→lh (x:Int) 2=((sD x:Nat):Int):=fun x hx=>by have:=t x hx;simp only[Bool.and_eq_true,decide_eq_true_eq]at this;exact this.2.1
 have t3: ∀ x:Nat,x < 256→lh (x:Int) 3=((sD x ^^^ x:Nat):Int):=fun x hx=>by have:=t x hx;simp only[Bool.and_eq_true,decide_eq_true_eq]at this;exact this.2.2
 have hal:all < 256:=by rw[hall];exact xlt (xlt (xlt ha hb) hc) hd
 have l1:=wW a
 have l3:=xlt (wW b) hb
 rw[Hr a b ha hb,t1 _ (xlt ha hb),Hr _ _ ha (wW _),Hr _ _ (xlt ha (wW _)) hal,t2 a ha,t3 b hb,ja _ (by omega) (by omega),ja _ (by omega) (by omega),
  Hr _ _ l1 l3,Hr c d hc hd,Hr _ _ (xlt l1 l3) (xlt hc hd),aaE,hall]
 congr 1
 apply Nat.eq_of_testBit_eq
 intro j
 simp only[Nat.testBit_xor]
 cases a.testBit j<;>cases b.testBit j<;>cases c.testBit j<;>cases d.testBit j<;>cases (sD a).testBit j<;>cases (sD b).testBit j<;>rfl
theorem agK (M:Nat→Int) (hM:bY M) (i:Nat):lj M i=Wh M i:=by
 have q:=fun m=>aaF (hM m)
 simp only[lj,Wh]
 have hi:i=i - i%4+i%4:=by omega
 generalize i - i%4=c at*
 obtain ⟨x0,e0,h0⟩:=q c
 obtain ⟨x1,e1,h1⟩:=q (c+1)
 obtain ⟨x2,e2,h2⟩:=q (c+2)
 obtain ⟨x3,e3,h3⟩:=q (c+3)
 have cs:i%4=0∨i%4=1∨i%4=2∨i%4=3:=by omega
 have e4:aS .xor .u8 (aS .xor .u8 (aS .xor .u8 (M c) (M (c+1))) (M (c+2))) (M (c+3))=((x0 ^^^ x1 ^^^ x2 ^^^ x3:Nat):Int):=by
  rw[e0,e1,e2,e3,Hr _ _ h0 h1,Hr _ _ (xlt h0 h1) h2,Hr _ _ (xlt (xlt h0 h1) h2) h3]
 rw[e4]
 have ac: ∀ a b c d:Nat,a ^^^ b ^^^ c ^^^ d=b ^^^ c ^^^ d ^^^ a:=fun a b c d=>by
  apply Nat.eq_of_testBit_eq
  intro j
  simp only[Nat.testBit_xor]
  cases a.testBit j<;>cases b.testBit j<;>cases c.testBit j<;>cases d.testBit j<;>rfl
 rcases cs with r | r | r | r
 ·rw[show (i+1)%4=1 by omega,show (i+2)%4=2 by omega,show (i+3)%4=3 by omega,show M i=M c by rw[hi,r];rfl]
  simp only[e0,e1,e2,e3]
  exact sE x0 x1 x2 x3 h0 h1 h2 h3 _ rfl
 ·rw[show (i+1)%4=2 by omega,show (i+2)%4=3 by omega,show (i+3)%4=0 by omega,show M i=M (c+1) by rw[hi,r]]
  simp only[Nat.add_zero,e0,e1,e2,e3]
  exact sE x1 x2 x3 x0 h1 h2 h3 h0 _ (ac _ _ _ _)
 ·rw[show (i+1)%4=3 by omega,show (i+2)%4=0 by omega,show (i+3)%4=1 by omega,show M i=M (c+2) by rw[hi,r]]
  simp only[Nat.add_zero,e0,e1,e2,e3]
  exact sE x2 x3 x0 x1 h2 h3 h0 h1 _ ((ac _ _ _ _).trans (ac _ _ _ _))
 ·rw[show (i+1)%4=0 by omega,show (i+2)%4=1 by omega,show (i+3)%4=2 by omega,show M i=M (c+3) by rw[hi,r]]
  simp only[Nat.add_zero,e0,e1,e2,e3]
  exact sE x3 x0 x1 x2 h3 h0 h1 h2 _ (((ac _ _ _ _).trans (ac _ _ _ _)).trans (ac _ _ _ _))
theorem wX (C K:Nat→Int) (k m:Nat) (h:m < 4*(8+k)): ∀ d,fg C K (k+d) m=fg C K k m
 | 0=>rfl
 | d+1=>by
  have ih:=wX C K k m h d
  show (if 4*(8+(k+d))≤m∧m < 4*(8+(k+d))+4 then _ else fg C K (k+d) m)=_
  rw[if_neg (by omega),ih]
theorem Hs (S K:Nat→Int) (n m:Nat) (h:m < n): ∀ d,cG S K (n+d) m=cG S K n m
 | 0=>rfl
 | d+1=>by
  have ih:=Hs S K n m h d
  show upd (cG S K (n+d)) (n+d) _ m=_
  rw[bg _ _ _ _ (by omega),ih]
theorem acv {x:Int} (h:0≤x∧x < 256):tF x=lh x 2:=by
 obtain ⟨n,rfl,hn⟩:=aaF h
 have:=List.all_eq_true.1 Vc n (List.mem_range.2 hn)
 simp only[Bool.and_eq_true,decide_eq_true_eq]at this
 rw[this.1,this.2.1]
theorem afk: ∀ k,sP k=oe (4*(8+k))
 | 0=>by kernel_rfl
 | k+1=>by
  have ih:=afk k
  have e:oe (4*(8+(k+1)))=if (4*(8+k))%32=0 then lh (oe (4*(8+k))) 2 else oe (4*(8+k)):=by
   rw[show 4*(8+(k+1))=4*(8+k)+1+1+1+1 by omega]
   generalize hq:4*(8+k)=q
   have h4:q%4=0:=by omega
   have Pe:32≤q:=by omega
   show (if 32≤q+1+1+1∧(q+1+1+1)%32=0 then _ else (if 32≤q+1+1∧(q+1+1)%32=0 then _ else (if 32≤q+1∧(q+1)%32=0 then _ else (if 32≤q∧q%32=0 then lh (oe q) 2 else oe q))))=_
   rw[if_neg (by omega),if_neg (by omega),if_neg (by omega)]
   by_cases hz:q%32=0
   ·rw[if_pos ⟨Pe,hz⟩,if_pos hz]
   ·rw[if_neg (by omega),if_neg hz]
  have hb:=tH (4*(8+k))
  rw[e, ← ih]
  rw[← ih]at hb
  simp only[sP]
  by_cases h:(8+k)%8=0
  ·rw[if_pos h,if_pos (by omega),acv hb]
  ·rw[if_neg h,if_neg (by omega)]
theorem agL (K:Nat→Int) (hK:bY K): ∀ m,m < 240→fg ll K 52 m=cG dy K 240 m:=fun m=>by
 induction m using Nat.strongRecOn with
 | _ m ih=>
  intro hm
  have hF:cG dy K 240 m=if m < 32 then K m else rvB dy (cG dy K m) (oe m) m:=by
   have:=Hs dy K (m+1) m (by omega) (239 - m)
   rw[show m+1+(239 - m)=240 by omega]at this
   rw[this];exact ax _ _ _
  have hFs: ∀ j,j < m→cG dy K m j=cG dy K 240 j:=fun j hj=>by
   have:=Hs dy K m j hj (240 - m)
   rw[show m+(240 - m)=240 by omega]at this
   exact this.symm
  have hb:=B2 (S:=dy) hK 240
  by_cases Pe:m < 32
  ·rw[hF,if_pos Pe]
   have:=wX ll K 0 m (by omega) 52
   rw[Nat.zero_add]at this
   rw[this];exact if_pos Pe
  ·obtain ⟨k,j,hk,hj⟩: ∃ k j,m=4*(8+k)+j∧j < 4:=⟨m / 4 - 8,m%4,by omega,by omega⟩
   have apu:k < 52:=by omega
   have hGs: ∀ q,q < 4*(8+k)→fg ll K k q=cG dy K 240 q:=fun q hq=>by
    have:=wX ll K k q hq (52 - k)
    rw[show k+(52 - k)=52 by omega]at this
    rw[← this];exact ih q (by omega) (by omega)
   have hG:fg ll K 52 m=aS .xor .u8 (fg ll K k (m - 32)) (sC ll (fg ll K k) (sP k) (8+k) j):=by
    have:=wX ll K (k+1) m (by omega) (51 - k)
    rw[show k+1+(51 - k)=52 by omega]at this
    rw[this]
    show (if 4*(8+k)≤m∧m < 4*(8+k)+4 then aS .xor .u8 (fg ll K k (m - 32)) (sC ll (fg ll K k) (sP k) (8+k) (m - 4*(8+k))) else _)=_
    rw[if_pos (by omega),show m - 4*(8+k)=j by omega]
   have hfr:oW m < m:=by unfold oW;split<;>(try split)<;>omega
   rw[hG,hF,if_neg Pe,hGs _ (by omega)]
   simp only[rvB]
   rw[hFs (m - 32) (by omega),hFs (oW m) hfr]
   congr 1
   have hp:IntKind.u8.wrap (oe m)=oe m:=ja _ (tH m).1 (tH m).2
   have hidx:4*(8+k - 1)=4*(8+k) - 4:=by omega
   simp only[sC]
   by_cases h0:(8+k)%8=0
   ·rw[if_pos h0,if_pos (Or.inl (by omega):m%32 < 4∨16≤m%32∧m%32 < 20)]
    by_cases hj0:j=0
    ·rw[if_pos hj0,if_pos (show m%32=0 by omega),hGs _ (by omega),Hq (hb _),hp,afk]
     have e1:oW m=4*(8+k - 1)+1:=by unfold oW;rw[if_pos (by omega),if_neg (by omega)];omega
     rw[e1,show 4*(8+k)=m by omega]
    ·rw[if_neg hj0,if_neg (show ¬ m%32=0 by omega),hGs _ (by omega),Hq (hb _)]
     have e1:oW m=4*(8+k - 1)+(j+1)%4:=by
      unfold oW;rw[if_pos (by omega)]
      by_cases h3:m%4=3
      ·rw[if_pos h3];omega
      ·rw[if_neg h3];omega
     rw[e1]
   ·rw[if_neg h0]
    have e1:oW m=4*(8+k - 1)+j:=by unfold oW;rw[if_neg (by omega)];omega
    rw[if_neg (show ¬ m%32=0 by omega)]
    by_cases h4:(8+k)%8=4
    ·rw[if_pos h4,if_pos (Or.inr (by omega):m%32 < 4∨16≤m%32∧m%32 < 20),hGs _ (by omega),Hq (hb _),e1]
    ·rw[if_neg h4,if_neg (show ¬ (m%32 < 4∨16≤m%32∧m%32 < 20) by omega),hGs _ (by omega),e1]
theorem key_eq (K:Nat→Int) (hK:bY K) (r i:Nat) (hr:r < 15) (hi:i < 16):wF (kc K) r i=cG dy K 240 (16*r+i):=by
 simp only[wF,kc,tG]
 rw[if_pos (by omega),agL K hK _ (by omega),show 256+r*16+i - 256=16*r+i by omega]
theorem aaG (K S:Nat→Int) (hS:bY S) (i:Nat):mE (kc K) S i=rn dy S i:=by
 simp only[mE,rn]
 rw[show i%4*4=4*(i%4) by omega]
 have:=hS ((i+4*(i%4))%16)
 generalize S ((i+4*(i%4))%16)=x at*
 have e:kc K x.toNat=ll x.toNat:=by simp only[kc,tG];rw[if_neg (by omega)]
 rw[e];exact Hq this
theorem Pg {a b c d:Nat→Int} {i:Nat} (h1:a i=c i) (h2:b i=d i):oc a b i=oc c d i:=by simp only[oc,h1,h2]
theorem F2 {C S T:Nat→Int} (h: ∀ i,i < 16→S i=T i) (i:Nat):mE C S i=mE C T i:=by
 simp only[mE,h _ (Nat.mod_lt _ (by decide))]
theorem aaH (K B:Nat→Int) (hK:bY K): ∀ k,k < 14→ ∀ i,i < 16→rm (kc K) B k i=jm B (cG dy K 240) dy k i
 | 0,_,i,hi=>by
  show oc B (wF (kc K) 0) i=oc B (cG dy K 240) i
  exact Pg rfl (by rw[key_eq K hK 0 i (by decide) hi,Nat.mul_zero,Nat.zero_add])
 | k+1,hk,i,hi=>by
  have ih:=aaH K B hK k (by omega)
  have hb:=B3 B (cG dy K 240) dy k
  have hM:bY (rn dy (jm B (cG dy K 240) dy k)):=fun i=>B4 _
  have e1:mE (kc K) (rm (kc K) B k)=rn dy (jm B (cG dy K 240) dy k):=funext fun j=>by
   rw[F2 ih j,aaG K _ hb j]
  show oc (lj (mE (kc K) (rm (kc K) B k))) (wF (kc K) (k+1)) i=aS .xor .u8 (if k+1=14 then _ else Wh (rn dy (jm B (cG dy K 240) dy k)) i) (cG dy K 240 (16*(k+1)+i))
  rw[e1,if_neg (by omega), ← agK _ hM i, ← key_eq K hK (k+1) i (by omega) hi]
  rfl
theorem block_eq (K B:Nat→Int) (hK:bY K) (i:Nat) (hi:i < 16):aaB (kc K) B i=jm B (cG dy K 240) dy 14 i:=by
 have hb:=B3 B (cG dy K 240) dy 13
 have ih:=aaH K B hK 13 (by decide)
 have e1:mE (kc K) (rm (kc K) B 13)=rn dy (jm B (cG dy K 240) dy 13):=funext fun j=>by
  rw[F2 ih j,aaG K _ hb j]
 show oc (mE (kc K) (rm (kc K) B 13)) (wF (kc K) 14) i=aS .xor .u8 (if 13+1=14 then rn dy (jm B (cG dy K 240) dy 13) i else _) (cG dy K 240 (16*(13+1)+i))
 rw[e1,if_pos rfl, ← key_eq K hK 14 i (by decide) hi]
 rfl
end Go.Proofs.YtoakenpcooglpaaGreatDoor
