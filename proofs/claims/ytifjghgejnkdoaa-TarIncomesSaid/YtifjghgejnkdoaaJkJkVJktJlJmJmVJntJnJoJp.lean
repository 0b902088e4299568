import Derived.Test.YtifjghgejnkdoaaJhJhVJitJi
import Derived.Test.YtifjghgejnkdoaaAwjIeIeVIf
set_option linter.unusedVariables false
set_option linter.unusedSimpArgs false
namespace Go.Proofs.Ytifjghgejnkdoaa
open Go Go.Lg
attribute [local irreducible] bodyH funS
structure okSs (m:Nat) (f:Nat→Sti):Prop where
 a:m≤4
 b:∀ i,i<m→okSt (f i)∧okT (f i).most
structure ciP (M m:Nat) (f:Nat→Sti) (a:Int) (c:Crs):Prop where
 a0:0≤a
 a1:a≤m
 s:okSs m f
 b:bdC (100000000*(a+1)) c
 M:m - a.toNat<M
structure cjP (m:Nat) (f:Nat→Sti) (a:Nat) (c:Crs) (t:Nat):Prop where
 h:a<m
 k:t≤(f a).most.toNat+1
structure ckP (m:Nat) (f:Nat→Sti) (a:Nat) (c:Crs) (t:Nat):Prop where
 h:a<m
 k:t≤(f a).most.toNat
 p:canP c (f a) t
end Go.Proofs.Ytifjghgejnkdoaa

set_option maxRecDepth 100000
namespace Go.Proofs.Ytifjghgejnkdoaa
open Go Go.Lg
end Go.Proofs.Ytifjghgejnkdoaa

namespace Go.Proofs.Ytifjghgejnkdoaa
open Go Go.Lg
end Go.Proofs.Ytifjghgejnkdoaa

set_option maxRecDepth 100000
namespace Go.Proofs.Ytifjghgejnkdoaa
open Go Go.Lg
attribute [local irreducible] funS bodyH
theorem can_mono {c:Crs} {s:Sti} {t t':Int} (hs:0≤s.takes) (h:canP c s t') (ht:t≤t'):canP c s t:=by
 unfold canP at *
 have:=Int.mul_le_mul_of_nonneg_right ht hs
 omega
end Go.Proofs.Ytifjghgejnkdoaa

namespace Go.Proofs.Ytifjghgejnkdoaa
open Go Go.Lg
attribute [local irreducible] bodyH funS
end Go.Proofs.Ytifjghgejnkdoaa

set_option maxRecDepth 100000
namespace Go.Proofs.Ytifjghgejnkdoaa
open Go Go.Lg
end Go.Proofs.Ytifjghgejnkdoaa

namespace Go.Proofs.Ytifjghgejnkdoaa
open Go Go.Lg
end Go.Proofs.Ytifjghgejnkdoaa

set_option maxRecDepth 100000
namespace Go.Proofs.Ytifjghgejnkdoaa
open Go Go.Lg
attribute [local irreducible] funS bodyH
end Go.Proofs.Ytifjghgejnkdoaa

namespace Go.Proofs.Ytifjghgejnkdoaa
open Go Go.Lg
structure eqC (c d:Crs):Prop where
 p:∀ i,i<4→c.p i=d.p i
 l:∀ i,i<6→c.l i=d.l i
 c:c.c=d.c
section
variable {Y:Yd} (h:okYd Y)
include h
omit h in
theorem se_nonneg {Y:Yd} {L:Nat→Tw} {o:Nat→Int} (ho:okOr Y.q Y.sal o) (hL:∀ i,i<6→0≤(L i).lo):∀ k,k≤Y.q→(∀ i,i<6→0≤((seS Y.sal o L k).l i).lo)∧0≤(seS Y.sal o L k).c
 | 0,_=>⟨hL,Int.le_refl 0⟩
 | k+1,hk=>by
  obtain ⟨h1,h2⟩:=se_nonneg ho hL k (by omega)
  have b:=ho.b k (by omega)
  have hs:=ho.s.b (o k).toNat (by omega)
  have g0:=hs.g0
  have g1:=hs.g1
  have m0:=hs.m0
  have l:=h1 (Y.sal (o k).toNat).good.toNat (by omega)
  have av:0≤ssA Y.sal (seS Y.sal o L k) (o k):=by unfold ssA; omega
  refine ⟨fun i hi=>?_,?_⟩
  ·have hi':=h1 i hi
   by_cases e:i=(Y.sal (o k).toNat).good.toNat
   ·have el:(seS Y.sal o L (k+1)).l i=⟨((seS Y.sal o L k).l i).lo - ssA Y.sal (seS Y.sal o L k) (o k),((seS Y.sal o L k).l i).hi⟩:=by simp only [seS,ssN,if_pos e]
    rw [el]
    unfold ssA
    rw [← e]
    simp only
    omega
   ·have el:(seS Y.sal o L (k+1)).l i=(seS Y.sal o L k).l i:=by simp only [seS,ssN,if_neg e]
    rw [el]; exact hi'
  ·have p:=Int.mul_nonneg av hs.p0
   show 0≤(seS Y.sal o L k).c+ssA Y.sal (seS Y.sal o L k) (o k)*(Y.sal (o k).toNat).price
   omega
end
end Go.Proofs.Ytifjghgejnkdoaa

namespace Go.Proofs.Ytifjghgejnkdoaa
open Go Go.Lg
attribute [local irreducible] bodyH funS
theorem isl_relS {S:Nat} {L L':List AV} {c:Nat→Nat→Option Value} {I:Nat→Prop} {N:Nat} {β:Nat→Option Lg.Loc} {v:Value} (hl:L.length=L'.length) (hc:∀ i:Nat,(L.getD i .any).cells=(L'.getD i .any).cells) (h:Rel c I N β (.isl S L') v):Rel c I N β (.isl S L) v:=by
 generalize hq:AV.isl S L'=q at h
 cases h with
 | isl S2 L2 b off cap vs hb hn hz hcc hv =>
  cases hq
  rw [← hl]
  exact .isl S L b off cap vs hb (by omega) (fun i hi=>by rw [hc]; exact hz i (by omega)) (fun i hi j hj=>hcc i (by omega) j hj) (fun i hi j hj=>by rw [hc]; exact hv i (by omega) j hj)
 | islz S2 a =>
  cases hq
  have:L=[]:=List.length_eq_zero_iff.1 (by simpa using hl)
  subst this
  exact .islz _ a
 | _=>cases hq
def agI:SV→SV
 | .agg [.int K z]=>.int K z
 | v=>v
theorem agI_cells (x:SV):((agI x).den).cells=(x.den).cells:=by
 unfold agI
 split
 ·simp [SV.den,SV.denL,AV.cells]
 ·rfl
def agAt:Nat→List SV→(List SV→Prop)→Prop
 | 0,args,k=>(match args with
  | .lst 1 n f :: r=>k (.lst 1 n (fun j=>agI (f j)) :: r)
  | _=>k args)
 | i+1,args,k=>(match args with
  | x :: r=>agAt i r fun r=>k (x :: r)
  | []=>k [])
theorem ag_does {g:FuncId} {fr:Bool} {n:Nat} {f:Nat→SV} {pre post:List AV} {res:AV} (h:Does Try.prog g fr (pre ++ (SV.lst 1 n fun j=>agI (f j)).den :: post) res):Does Try.prog g fr (pre ++ (SV.lst 1 n f).den :: post) res:=by
 intro w I vals hI hr
 refine h w I vals hI ?_
 clear h
 generalize vals.toList=l at hr
 induction pre generalizing l with
 | nil =>
  obtain ⟨v,r,e,h1,h2⟩:=hr.cons
  rw [e]
  refine RelL.mk ?_ h2
  simp only [SV.den] at h1 ⊢
  refine isl_relS (by simp) (fun i=>?_) h1
  by_cases hi:i<n
  ·simp [List.getD,hi,agI_cells]
  ·simp [List.getD,hi]
 | cons x pre ih =>
  obtain ⟨v,r,e,h1,h2⟩:=hr.cons
  rw [e]
  exact RelL.mk h1 (ih _ h2)
theorem agAt_spec:∀ {i:Nat} {args:List SV} {k:List SV→Prop},agAt i args k→(∃ a,k a∧∀ {g fr res} (pre:List AV),Does Try.prog g fr (pre ++ SV.denL a) res→Does Try.prog g fr (pre ++ SV.denL args) res)
 | 0,args,k,h=>by
  unfold agAt at h
  split at h
  ·rename_i n f r
   exact ⟨_,h,fun pre hd=>ag_does (pre:=pre) (post:=SV.denL r) hd⟩
  ·exact ⟨_,h,fun pre hd=>hd⟩
 | i+1,args,k,h=>by
  unfold agAt at h
  split at h
  ·rename_i x r
   obtain ⟨a,h1,h2⟩:=agAt_spec (i:=i) h
   refine ⟨_,h1,fun pre hd=>?_⟩
   have:=h2 (pre ++ [x.den]) (by simpa [SV.denL] using hd)
   simpa [SV.denL] using this
  ·exact ⟨_,h,fun pre hd=>hd⟩
def agC (i:Nat) (C:Ctr):Ctr:=⟨C.f,fun args k=>agAt i args fun args=>C.c args k⟩
theorem agC_ok {i:Nat} {C:Ctr} (h:C.Ok Try.prog):(agC i C).Ok Try.prog:=by
 refine ⟨h.1,fun x k hk=>?_⟩
 obtain ⟨a,h1,h2⟩:=agAt_spec hk
 obtain ⟨v,h3,h4⟩:=h.2 _ _ h1
 exact ⟨v,h2 (g:=C.f) [] h3,h4⟩
end Go.Proofs.Ytifjghgejnkdoaa
