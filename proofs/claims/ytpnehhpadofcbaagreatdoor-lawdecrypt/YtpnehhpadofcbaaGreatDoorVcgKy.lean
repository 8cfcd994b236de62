/-
  The calculus: rows of keys that grow by one. Nothing here speaks of a program.
-/
import Derived.Test.YtpnehhpadofcbaaGreatDoorVcgRx
set_option linter.unusedSimpArgs false
set_option linter.unusedVariables false
namespace Go.bU

def wV (f:Nat→Nat→Int) (j:Nat):Int:=f (j / 32) (j%32)
structure kx (cs:List SV) (n c:Nat) (f:Nat→Nat→Int):Prop where
 len:cs.length=c*32
 room:n≤c
 plain:cs.all SV.plain=true
 shows:aZ cs 0 (n*32) (wV f)
theorem kx.key {cs:List SV} {n c:Nat} {f:Nat→Nat→Int} (h:kx cs n c f) {i:Nat} (hi:i < n):aZ cs (i*32) 32 (f i):=fun j hj=>by
 have:=h.shows (i*32+j) (by omega)
 rw[Nat.zero_add]at this
 rw[this]
 unfold wV
 rw[show (i*32+j) / 32=i by omega,show (i*32+j)%32=j by omega]
theorem NB {n:Nat} {f:Nat→Nat→Int} {key:Nat→Int} {i:Nat} (hi:i < n*32+32):(if i < n*32 then wV f i else key (i - n*32))=wV (upd f n key) i:=by
 unfold wV upd
 split
 ·rename_i h;rw[if_neg (by omega)]
 ·rename_i h;rw[if_pos (by omega),show i - n*32=i%32 by omega]
theorem kx.snoc {n c:Nat} {f:Nat→Nat→Int} {key:Nat→Int} {tail:List SV} (h1:n+1≤c) (h2:tail.length=(c - (n+1))*32) (h3:tail.all SV.plain=true):
  kx (af .u8 (n*32) (wV f)++af .u8 32 key++tail) (n+1) c (upd f n key):=by
 rw[Iz]
 refine ⟨by rw[List.length_append,ah,h2];omega,h1,cD h3,fun i hi=> ?_⟩
 have hi':i < n*32+32:=by omega
 rw[dg i hi',NB hi']
theorem Xj:jx (List.replicate 32 (Value.int IntKind.u8 0)) 32=af .u8 32 (fun _=>0):=by rfl
theorem GY:(List.replicate 32 (Value.int IntKind.u8 0)).length=32:=by rfl
section
variable {P:Program} [Tables P]
def kyZ:List Value:=List.replicate 32 (Value.int IntKind.u8 0)
theorem KW {t tx:Nat} (hk:qh P t=some (kyZ,32,32)) (hx:rZ P tx=some (none,32)) {s:AS} {nm b u n c c0:Nat} {f:Nat→Nat→Int} {key:Nat→Int} {cs:List SV} {rw:Bool} (hb:s.box b=some ⟨true,cs⟩) (hg:kx cs n c f)
  (hb':s.box u=some ⟨rw,af .u8 32 key⟩) (hne:b≠u) (hby:(n+1)*32≤140737488355328) {ty:TypeId} {ct:Array Bool} {dst:Option Nat} {K:AS→Prop}
  (hK: ∀ c' cs',kx cs' (n+1) c' (upd f n key)→K ((⟨s.env,upd (upd s.box b none) nm (some ⟨true,cs'⟩),s.next⟩:AS).put dst (some (Sl nm 0 (n+1) c')))):
  bQ P nm .append #[t,tx] ty ct (some [Sl b 0 n c,Sl u 0 1 c0]) dst K s:=
 jK (m:=1) (olds:=af .u8 (n*32) (wV f)) (news:=af .u8 32 key) (sz:=32) hk hx rfl (by decide) (by decide) hb (by rw[hg.len,Nat.zero_add]) hg.room (ah _ _ _) (fu hg.shows) hg.plain
  (.inl ⟨u,0,c0,_,rfl,hb',ah _ _ _,fun j v h=>by rw[Nat.zero_add];exact h,by simpa using hne⟩) (by omega) hby (fun c' tail h1 h2 h3=>hK c' _ (kx.snoc h1 h2 h3))
theorem Fq {t tx:Nat} (hk:qh P t=some (kyZ,32,32)) (hx:rZ P tx=some (none,32)) {s:AS} {nm u c0:Nat} {key:Nat→Int} {rw:Bool}
  (hb':s.box u=some ⟨rw,af .u8 32 key⟩) {f:Nat→Nat→Int} {ty:TypeId} {ct:Array Bool} {dst:Option Nat} {K:AS→Prop}
  (hK: ∀ c' cs',kx cs' 1 c' (upd f 0 key)→K ((⟨s.env,upd s.box nm (some ⟨true,cs'⟩),s.next⟩:AS).put dst (some (Sl nm 0 1 c')))):
  bQ P nm .append #[t,tx] ty ct (some [V (.slice none 0 0),Sl u 0 1 c0]) dst K s:=
 ji (m:=1) (news:=af .u8 32 key) (sz:=32) hk hx rfl (by decide) (by decide)
  (.inl ⟨u,0,c0,_,rfl,hb',ah _ _ _,fun j v h=>by rw[Nat.zero_add];exact h,by simp⟩) (by decide) (by decide) (fun h=>absurd h (by decide))
  (fun _ c' tail h1 h2 h3=>hK c' _ (by have:=kx.snoc (n:=0) (f:=f) (key:=key) h1 h2 h3;rwa [show af .u8 (0*32) (wV f)=[] from rfl,List.nil_append]at this))
end
end Go.bU
