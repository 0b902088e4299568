import Derived.Test.YtbedomoilakcaaaJkJkVJktJlJmJmVJntJnJo
import Derived.Test.YtbedomoilakcaaaIaIaVIbIcIcVIdIeIeVIf
import Derived.Test.YtbedomoilakcaaaJaJaVJbTJbJdJdVJetJe
set_option linter.unusedVariables false
set_option linter.unusedSimpArgs false
namespace Go.Proofs.Ytbedomoilakcaaa
open Go Go.Lg
attribute [local irreducible] bodyH funS
theorem isl_relS {S:Nat} {L L':List AV} {c:Nat→Nat→Option Value} {I:Nat→Prop} {N:Nat} {β:Nat→Option Lg.Loc} {v:Value} (hl:L.length=L'.length) (hc:∀ i:Nat,(L.getD i .any).cells=(L'.getD i .any).cells) (h:Rel c I N β (.isl S L') v):Rel c I N β (.isl S L) v:=by
 generalize hq:AV.isl S L'=q at h
 cases h with
 | isl S2 L2 b off cap vs hb hn hz hcc hv =>
  cases hq
  rw [← hl]
  exact .isl S L b off cap vs hb (by omega) (fun i hi=>by rw [hc]; exact hz i (by omega)) (fun i hi j hj=>hcc i (by omega) j hj) (fun i hi j hj=>by rw [hc]; exact hv i (by omega) j hj)
 | islz S2 a =>
  cases hq
  have:L=[]:=List.length_eq_zero_iff.1 (by simpa using hl)
  subst this
  exact .islz _ a
 | _=>cases hq
def agI:SV→SV
 | .agg [.int K z]=>.int K z
 | v=>v
theorem agI_cells (x:SV):((agI x).den).cells=(x.den).cells:=by
 unfold agI
 split
 ·simp [SV.den,SV.denL,AV.cells]
 ·rfl
def agAt:Nat→List SV→(List SV→Prop)→Prop
 | 0,args,k=>(match args with
  | .lst 1 n f :: r=>k (.lst 1 n (fun j=>agI (f j)) :: r)
  | _=>k args)
 | i+1,args,k=>(match args with
  | x :: r=>agAt i r fun r=>k (x :: r)
  | []=>k [])
theorem ag_does {g:FuncId} {fr:Bool} {n:Nat} {f:Nat→SV} {pre post:List AV} {res:AV} (h:Does Try.prog g fr (pre ++ (SV.lst 1 n fun j=>agI (f j)).den :: post) res):Does Try.prog g fr (pre ++ (SV.lst 1 n f).den :: post) res:=by
 intro w I vals hI hr
 refine h w I vals hI ?_
 clear h
 generalize vals.toList=l at hr
 induction pre generalizing l with
 | nil =>
  obtain ⟨v,r,e,h1,h2⟩:=hr.cons
  rw [e]
  refine RelL.mk ?_ h2
  simp only [SV.den] at h1 ⊢
  refine isl_relS (by simp) (fun i=>?_) h1
  by_cases hi:i<n
  ·simp [List.getD,hi,agI_cells]
  ·simp [List.getD,hi]
 | cons x pre ih =>
  obtain ⟨v,r,e,h1,h2⟩:=hr.cons
  rw [e]
  exact RelL.mk h1 (ih _ h2)
theorem agAt_spec:∀ {i:Nat} {args:List SV} {k:List SV→Prop},agAt i args k→(∃ a,k a∧∀ {g fr res} (pre:List AV),Does Try.prog g fr (pre ++ SV.denL a) res→Does Try.prog g fr (pre ++ SV.denL args) res)
 | 0,args,k,h=>by
  unfold agAt at h
  split at h
  ·rename_i n f r
   exact ⟨_,h,fun pre hd=>ag_does (pre:=pre) (post:=SV.denL r) hd⟩
  ·exact ⟨_,h,fun pre hd=>hd⟩
 | i+1,args,k,h=>by
  unfold agAt at h
  split at h
  ·rename_i x r
   obtain ⟨a,h1,h2⟩:=agAt_spec (i:=i) h
   refine ⟨_,h1,fun pre hd=>?_⟩
   have:=h2 (pre ++ [x.den]) (by simpa [SV.denL] using hd)
   simpa [SV.denL] using this
  ·exact ⟨_,h,fun pre hd=>hd⟩
def agC (i:Nat) (C:Ctr):Ctr:=⟨C.f,fun args k=>agAt i args fun args=>C.c args k⟩
theorem agC_ok {i:Nat} {C:Ctr} (h:C.Ok Try.prog):(agC i C).Ok Try.prog:=by
 refine ⟨h.1,fun x k hk=>?_⟩
 obtain ⟨a,h1,h2⟩:=agAt_spec hk
 obtain ⟨v,h3,h4⟩:=h.2 _ _ h1
 exact ⟨v,h2 (g:=C.f) [] h3,h4⟩
end Go.Proofs.Ytbedomoilakcaaa

set_option maxRecDepth 100000
namespace Go.Proofs.Ytbedomoilakcaaa
open Go Go.Lg
end Go.Proofs.Ytbedomoilakcaaa

namespace Go.Proofs.Ytbedomoilakcaaa
open Go Go.Lg
end Go.Proofs.Ytbedomoilakcaaa

set_option maxRecDepth 100000
namespace Go.Proofs.Ytbedomoilakcaaa
open Go Go.Lg
attribute [local irreducible] funS bodyH
theorem ag_fold (f:Nat→Int):(iOf fun j=>agI (SV.agg [i6 (f j)]))=f:=rfl
theorem inI_of {Y:Yd} {n:Nat} {p:Nat→Int} (h:erP Y n p=0):inI Y n p=inO Y p:=by rw [inI,if_pos h]; rfl
end Go.Proofs.Ytbedomoilakcaaa
