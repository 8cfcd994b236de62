/-
  The calculus: functions that are handed a pointer to a struct that holds one slice, and take bytes off its front. Nothing here speaks of a program.
-/
import Derived.Test.YtbipdofobgabhaaGreatDoorVcgJ
import Derived.Test.YtbipdofobgabhaaGreatDoorVcgZ1
set_option linter.unusedVariables false
set_option linter.unusedSimpArgs false
namespace Go.bA
set_option linter.unusedSectionVars false
abbrev rd (b o n c:Nat):SV:=Sum.inr (.inr (b,o,n,c))
def kE (o n c:Nat) (cs:List SV):Nat→Option aI:=lk [(0,⟨true,[rd 1 o n c]⟩),(1,⟨false,cs⟩)]
theorem CU {o n c:Nat} {cs:List SV}: ∀ m,m < 2→ ∃ b,kE o n c cs m=some b:=lg
theorem CW {o n c:Nat} {cs:List SV} (hp:cs.all SV.plain=true): ∀ m b,kE o n c cs m=some b→m < 2∧ ∀ x ∈ b.cells,SV.ok (fun n=>n < 2) x:=fun m b h=>by
 rcases yn h with ⟨rfl,rfl⟩ | ⟨rfl,rfl⟩
 ·refine ⟨by omega,fun x hx=> ?_⟩
  obtain rfl:=List.mem_singleton.1 hx
  exact ⟨show (1:Nat) < 2 by omega,rfl⟩
 ·exact ⟨by omega,aD hp⟩
def FY (x:AV) (o n c:Nat) (v:AV) (out:Nat→Option aI):Prop:=v=x∧out=lk [(0,⟨true,[rd 1 o n c]⟩)]
def L6 (k:Nat) (f:Nat→Int) (o n c:Nat) (v:AV) (out:Nat→Option aI):Prop:=
 (k=0∧v=V (.slice none 0 0)∧out=lk [(0,⟨true,[rd 1 o n c]⟩)])∨ ∃ c' tail,0 < k∧v=Sl 2 0 k c'∧out=lk [(2,⟨true,ah .u8 k f++tail⟩),(0,⟨true,[rd 1 o n c]⟩)]∧k≤c'∧tail.length=c' - k∧tail.all SV.plain=true
theorem CX {s:AS} {x:AV} {o n c:Nat} (hb:s.box 0=some ⟨true,[rd 1 o n c]⟩) (hx:AV.ok (fun n=>n < 2) x):sV 2 (FY x o n c) x s:=by
 have e: ∀ n,lM 2 2 n=n:=fun n=>by unfold lM;split<;>omega
 refine ⟨2,x,_,Nat.le_refl _,(lX (k:=2) (fun n _=>e n) hx).symm,AV.aY (fun n hn=>by omega) hx,fun m b h=> ?_,rfl,rfl⟩
 obtain ⟨rfl,rfl⟩:=D8 h
 refine ⟨by omega,fun h=>by omega,fun y hy=> ?_,_,by rw[e];exact hb,fun h=>h, ?_⟩
 ·obtain rfl:=List.mem_singleton.1 hy
  exact ⟨show (1:Nat) < 3 by omega,rfl⟩
 ·show _=[SV.ren (lM 2 2) (rd 1 o n c)]
  simp only[SV.ren,kY,e]
theorem N5 {s:AS} {k:Nat} {f:Nat→Int} {o n c:Nat} (hk:k=0) (hb:s.box 0=some ⟨true,[rd 1 o n c]⟩):sV 2 (L6 k f o n c) (V (.slice none 0 0)) s:=by
 obtain ⟨q,v0,out,h1,h2,h3,h4,h5⟩:=CX (x:=V (.slice none 0 0)) hb (by simp[AV.ok,CV.ok,SV.names])
 exact ⟨q,v0,out,h1,h2,h3,h4, .inl ⟨hk,h5.1,h5.2⟩⟩
theorem N6 {s:AS} {k q c':Nat} {f:Nat→Int} {o n c:Nat} {cs:List SV} (hk:0 < k) (hq:2≤q) (hg:bV cs 0 k c' f) (hbq:s.box q=some ⟨true,cs⟩) (hb:s.box 0=some ⟨true,[rd 1 o n c]⟩):sV 2 (L6 k f o n c) (Sl q 0 k c') s:=by
 have e0:lM 2 q 0=0:=rfl
 have e1:lM 2 q 1=1:=rfl
 have e2:lM 2 q 2=q:=rfl
 obtain ⟨c2,tail,h1,h2,h3,h4,h5⟩:=hg.made (k:=2)
 have hc:c'=c2:=by cases h1;rfl
 subst hc
 have ke:ah .u8 k f++tail=cs:=by
  have:=congrFun h2 2
  simpa[lk] using this.symm
 refine ⟨q,Sl 2 0 k c',_,hq,rfl,show (2:Nat) < 2+1 by omega,fun m b h=> ?_, .inr ⟨c',tail,hk,rfl,rfl,h3,h4,h5⟩⟩
 simp only[lk]at h
 split at h
 ·rename_i e;subst e
  simp only[Option.some.injEq]at h;subst h
  refine ⟨by omega,fun _=>rfl,aD (fR h5),⟨true,cs⟩,by rw[e2];exact hbq,fun h=>h, ?_⟩
  show cs=(ah .u8 k f++tail).map _
  rw[aN (fR h5)];exact ke.symm
 ·split at h
  ·rename_i e;subst e
   simp only[Option.some.injEq]at h;subst h
   refine ⟨by omega,fun h=>by omega,fun y hy=> ?_,_,by rw[e0];exact hb,fun h=>h,rfl⟩
   obtain rfl:=List.mem_singleton.1 hy
   exact ⟨show (1:Nat) < 3 by omega,rfl⟩
  ·cases h
section
variable {P:Program} [Tables P]
theorem L7 {s:AS} {t u o n c:Nat} {rw:Bool} {cs:List SV} (h:s.box t=some ⟨true,[rd u o n c]⟩) (h':s.box u=some ⟨rw,cs⟩) (hp:cs.all SV.plain=true) (hne:t≠u):Fits s (two t u) (kE o n c cs) (some 0):=by
 refine ⟨fun m b hm=> ?_,fun m m' b b' hm hrw hm' e=> ?_,fun m b hm hrw=> ?_,fun m hm=> ?_⟩
 ·rcases yn hm with ⟨rfl,rfl⟩ | ⟨rfl,rfl⟩
  ·exact ⟨_,h,fun h=>h,rfl⟩
  ·exact ⟨_,h',fun h=>(by cases h),(aN hp _).symm⟩
 ·rcases yn hm with ⟨rfl,rfl⟩ | ⟨rfl,rfl⟩
  ·rcases yn hm' with ⟨rfl,rfl⟩ | ⟨rfl,rfl⟩
   ·rfl
   ·exact absurd e hne
  ·cases hrw
 ·rcases yn hm with ⟨rfl,rfl⟩ | ⟨rfl,rfl⟩
  ·rfl
  ·cases hrw
 ·cases hm;exact ⟨_,rfl,rfl⟩
theorem FZ {s:AS} {t u nm o n c:Nat}:after s (two t u) 2 nm (some 0) (lk [(0,⟨true,[rd 1 o n c]⟩)])=upd s.box t (some ⟨true,[rd u o n c]⟩):=by
 simp[after,lk,aI.ren,dy,two,SV.ren,kY]
theorem Jd {cs:List SV} {o n m:Nat} {f:Nat→Int} (h:br cs o n f) (hm:m≤n):List.take m (List.drop o cs)=ah .u8 m f:=by
 apply List.ext_getElem?
 intro i
 by_cases hi:i < m
 ·rw[aE .u8 m f i hi,List.getElem?_take_of_lt hi,List.getElem?_drop,h i (by omega)]
 ·rw[List.getElem?_eq_none (by rw[List.length_take];omega),List.getElem?_eq_none (by rw[af];omega)]
theorem j4 {s:AS} {fn nm t u o n c o' n' c':Nat} {rw:Bool} {cs:List SV} {x:AV} {args l:List AV} (h:bz P fn args 2 (kE o n c cs) (FY x o' n' c')) (hb:s.box t=some ⟨true,[rd u o n c]⟩) (hb':s.box u=some ⟨rw,cs⟩) (hp:cs.all SV.plain=true) (hne:t≠u)
  (hl:l=args.map (AV.ren (two t u))) {y:AV} (hy:AV.ren (dy (two t u) 2 nm) x=y) {dst:Option Nat} {K:AS→Prop} (hk:K ((⟨s.env,upd s.box t (some ⟨true,[rd u o' n' c']⟩),s.next⟩:AS).put dst (some y))):aB P nm fn (some l) dst K s:=by
 refine h.aB (two t u) (some 0) (L7 hb hb' hp hne) hl ?_
 rintro v out ⟨rfl,rfl⟩ _
 rw[FZ,hy]
 exact hk
theorem Je {s:AS} {fn nm t u o n c o' n' c' k:Nat} {f:Nat→Int} {rw:Bool} {cs:List SV} {args l:List AV} (h:bz P fn args 2 (kE o n c cs) (L6 k f o' n' c')) (hb:s.box t=some ⟨true,[rd u o n c]⟩) (hb':s.box u=some ⟨rw,cs⟩) (hp:cs.all SV.plain=true) (hne:t≠u)
  (hl:l=args.map (AV.ren (two t u))) {dst:Option Nat} {K:AS→Prop} (h0:k=0→K ((⟨s.env,upd s.box t (some ⟨true,[rd u o' n' c']⟩),s.next⟩:AS).put dst (some (V (.slice none 0 0)))))
  (hk:0 < k→ ∀ q cs',bV cs' 0 k q f→K ((⟨s.env,upd (upd s.box nm (some ⟨true,cs'⟩)) t (some ⟨true,[rd u o' n' c']⟩),s.next⟩:AS).put dst (some (Sl nm 0 k q)))):aB P nm fn (some l) dst K s:=by
 refine h.aB (two t u) (some 0) (L7 hb hb' hp hne) hl ?_
 rintro v out (⟨rfl,rfl,rfl⟩ | ⟨q,tail,wP,rfl,rfl,h1,h2,h3⟩) _
 ·rw[FZ];exact h0 rfl
 ·have e:AV.ren (dy (two t u) 2 nm) (Sl 2 0 k q)=Sl nm 0 k q:=by show Sl (dy (two t u) 2 nm 2) 0 k q=_;rw[kt]
  rw[e]
  have e2:after s (two t u) 2 nm (some 0) (lk [(2,⟨true,ah .u8 k f++tail⟩),(0,⟨true,[rd 1 o' n' c']⟩)])=upd (upd s.box nm (some ⟨true,ah .u8 k f++tail⟩)) t (some ⟨true,[rd u o' n' c']⟩):=by
   have ep:=aN (fR (n:=k) (f:=f) h3) (dy (two t u) 2 nm)
   have er:aI.ren (dy (two t u) 2 nm) ⟨true,[rd 1 o' n' c']⟩=⟨true,[rd u o' n' c']⟩:=by simp[aI.ren,dy,two,SV.ren,kY]
   have Z8:aI.ren (dy (two t u) 2 nm) ⟨true,ah .u8 k f++tail⟩=⟨true,ah .u8 k f++tail⟩:=by simp only[aI.ren,ep]
   simp[after,lk,er,Z8,two]
  rw[e2]
  exact hk wP q _ (bV.row h1 h2 h3)
end
def XG (o m c:Nat):Nat:=if c=m then o else o+m
theorem jK {cs:List SV} {o n c m:Nat} {f:Nat→Int} (h:br cs o n f) (hm:m≤n) (hc:n≤c):br cs (XG o m c) (n - m) (fun i=>f (m+i)):=fun i hi=>by
 unfold XG
 rw[if_neg (by omega),Nat.add_assoc]
 exact h (m+i) (by omega)
def ko (f:Nat→Int) (i:Nat):Int:=f i*16777216+f (i+1)*65536+f (i+2)*256+f (i+3)
theorem XH (x y:Int) (n:Nat) (hn:n < 32) (h0:0≤x) (h1:x*2^n < 4294967296) (h2:0≤y) (h3:y < 2^n):aV .or .u32 (x*2^n) y=x*2^n+y:=by
 obtain ⟨a,rfl⟩:=Int.eq_ofNat_of_zero_le h0
 obtain ⟨b,rfl⟩:=Int.eq_ofNat_of_zero_le h2
 have e:(2:Int)^n=((2^n:Nat):Int):=by simp
 rw[e]at h1 h3 ⊢
 have hb:b < 2^n:=by omega
 have e2:((a:Int)*((2^n:Nat):Int))=((a*2^n:Nat):Int):=by simp
 rw[e2]at h1 ⊢
 have hp:2^n < 2^32:=Nat.pow_lt_pow_right (by decide) hn
 rw[(yA (a*2^n) b (by omega) (by omega)).2.1]
 have:a*2^n ||| b=a*2^n+b:=by
  rw[← Nat.shiftLeft_eq,Nat.shiftLeft_add_eq_or_of_lt hb]
 rw[this];simp
theorem Uu (a b c d:Int) (ha:0≤a∧a < 256) (hb:0≤b∧b < 256) (hc:0≤c∧c < 256) (hd:0≤d∧d < 256):
  aV .or .u32 (aV .or .u32 (aV .or .u32 (jx .u32 (IntKind.u32.wrap a) 24) (jx .u32 (IntKind.u32.wrap b) 16)) (jx .u32 (IntKind.u32.wrap c) 8)) (IntKind.u32.wrap d)=a*16777216+b*65536+c*256+d:=by
 have s24: ∀ x:Int,jx .u32 x 24=IntKind.u32.wrap (x*16777216):=fun x=>pO .u32 x 24 (by decide)
 have s16: ∀ x:Int,jx .u32 x 16=IntKind.u32.wrap (x*65536):=fun x=>pO .u32 x 16 (by decide)
 have s8: ∀ x:Int,jx .u32 x 8=IntKind.u32.wrap (x*256):=fun x=>pO .u32 x 8 (by decide)
 have w: ∀ x:Int,0≤x→x < 4294967296→IntKind.u32.wrap x=x:=fun x h1 h2=>iJ x h1 h2
 rw[s24,s16,s8,w a ha.1 (by omega),w b hb.1 (by omega),w c hc.1 (by omega),w d hd.1 (by omega),w (a*16777216) (by omega) (by omega),w (b*65536) (by omega) (by omega),w (c*256) (by omega) (by omega)]
 have e1:=XH a (b*65536) 24 (by decide) ha.1 (by omega) (by omega) (by omega)
 rw[show a*16777216=a*2^24 by omega,e1]
 have e2:=XH (a*256+b) (c*256) 16 (by decide) (by omega) (by omega) (by omega) (by omega)
 rw[show a*2^24+b*65536=(a*256+b)*2^16 by omega,e2]
 have e3:=XH ((a*256+b)*256+c) d 8 (by decide) (by omega) (by omega) (by omega) (by omega)
 rw[show (a*256+b)*2^16+c*256=((a*256+b)*256+c)*2^8 by omega,e3]
end Go.bA
