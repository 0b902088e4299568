import Derived.Test.YtifjghgejnkdoaaJhJhVJitJi
import Derived.Test.YtifjghgejnkdoaaAwjIeIeVIf
set_option linter.unusedVariables false
set_option linter.unusedSimpArgs false
namespace Go.Proofs.Ytifjghgejnkdoaa
open Go Go.Lg
attribute [local irreducible] bodyH funS
structure okSs (m:Nat) (f:Nat→Sti):Prop where
 a:m≤4
 b:∀ i,i<m→okSt (f i)∧okT (f i).most
structure ciP (M m:Nat) (f:Nat→Sti) (a:Int) (c:Crs):Prop where
 a0:0≤a
 a1:a≤m
 s:okSs m f
 b:bdC (100000000*(a+1)) c
 M:m - a.toNat<M
structure cjP (m:Nat) (f:Nat→Sti) (a:Nat) (c:Crs) (t:Nat):Prop where
 h:a<m
 k:t≤(f a).most.toNat+1
structure ckP (m:Nat) (f:Nat→Sti) (a:Nat) (c:Crs) (t:Nat):Prop where
 h:a<m
 k:t≤(f a).most.toNat
 p:canP c (f a) t
end Go.Proofs.Ytifjghgejnkdoaa

set_option maxRecDepth 100000
namespace Go.Proofs.Ytifjghgejnkdoaa
open Go Go.Lg
end Go.Proofs.Ytifjghgejnkdoaa

namespace Go.Proofs.Ytifjghgejnkdoaa
open Go Go.Lg
end Go.Proofs.Ytifjghgejnkdoaa

set_option maxRecDepth 100000
namespace Go.Proofs.Ytifjghgejnkdoaa
open Go Go.Lg
attribute [local irreducible] funS bodyH
end Go.Proofs.Ytifjghgejnkdoaa

namespace Go.Proofs.Ytifjghgejnkdoaa
open Go Go.Lg
attribute [local irreducible] bodyH funS
end Go.Proofs.Ytifjghgejnkdoaa

set_option maxRecDepth 100000
namespace Go.Proofs.Ytifjghgejnkdoaa
open Go Go.Lg
end Go.Proofs.Ytifjghgejnkdoaa

namespace Go.Proofs.Ytifjghgejnkdoaa
open Go Go.Lg
end Go.Proofs.Ytifjghgejnkdoaa

set_option maxRecDepth 100000
namespace Go.Proofs.Ytifjghgejnkdoaa
open Go Go.Lg
attribute [local irreducible] funS bodyH
end Go.Proofs.Ytifjghgejnkdoaa

namespace Go.Proofs.Ytifjghgejnkdoaa
open Go Go.Lg
structure eqC (c d:Crs):Prop where
 p:∀ i,i<4→c.p i=d.p i
 l:∀ i,i<6→c.l i=d.l i
 c:c.c=d.c
section
variable {Y:Yd} (h:okYd Y)
include h
omit h in
theorem se_nonneg {Y:Yd} {L:Nat→Tw} {o:Nat→Int} (ho:okOr Y.q Y.sal o) (hL:∀ i,i<6→0≤(L i).lo):∀ k,k≤Y.q→(∀ i,i<6→0≤((seS Y.sal o L k).l i).lo)∧0≤(seS Y.sal o L k).c
 | 0,_=>⟨hL,Int.le_refl 0⟩
 | k+1,hk=>by
  obtain ⟨h1,h2⟩:=se_nonneg ho hL k (by omega)
  have b:=ho.b k (by omega)
  have hs:=ho.s.b (o k).toNat (by omega)
  have g0:=hs.g0
  have g1:=hs.g1
  have m0:=hs.m0
  have l:=h1 (Y.sal (o k).toNat).good.toNat (by omega)
  have av:0≤ssA Y.sal (seS Y.sal o L k) (o k):=by unfold ssA; omega
  refine ⟨fun i hi=>?_,?_⟩
  ·have hi':=h1 i hi
   by_cases e:i=(Y.sal (o k).toNat).good.toNat
   ·have el:(seS Y.sal o L (k+1)).l i=⟨((seS Y.sal o L k).l i).lo - ssA Y.sal (seS Y.sal o L k) (o k),((seS Y.sal o L k).l i).hi⟩:=by simp only [seS,ssN,if_pos e]
    rw [el]
    unfold ssA
    rw [← e]
    simp only
    omega
   ·have el:(seS Y.sal o L (k+1)).l i=(seS Y.sal o L k).l i:=by simp only [seS,ssN,if_neg e]
    rw [el]; exact hi'
  ·have p:=Int.mul_nonneg av hs.p0
   show 0≤(seS Y.sal o L k).c+ssA Y.sal (seS Y.sal o L k) (o k)*(Y.sal (o k).toNat).price
   omega
end
end Go.Proofs.Ytifjghgejnkdoaa

namespace Go.Proofs.Ytifjghgejnkdoaa
open Go Go.Lg
attribute [local irreducible] bodyH funS
end Go.Proofs.Ytifjghgejnkdoaa
