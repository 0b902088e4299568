import Derived.Test.YtfobgmecnlehaaaEeEeVEfEfVEg
set_option linter.unusedVariables false
set_option linter.unusedSimpArgs false
set_option maxRecDepth 100000
namespace Go.Proofs.Ytfobgmecnlehaaa
open Go Go.Lg
attribute [local irreducible] funS bodyH
theorem yrF2 (f:Nat→Yr):(yrF fun i=>(yrF (fun i=>(f i).sv) i).sv)=f:=rfl
theorem yrF1 (f:Nat→Yr) (i:Nat):yrF (fun i=>(f i).sv) i=f i:=rfl
theorem app_eq {α:Type} {z i:Nat} {f:Nat→α} {x:α} (hi:i<z+1) (hx:x=f z):(if i<z then f i else x)=f i:=by
 by_cases h:i<z
 ·rw [if_pos h]
 ·have:i=z:=by omega
  subst this; rw [if_neg h,hx]
theorem ruN0 {a:Act} {n:Nat} {f:Nat→Yr} (h:erA a n f=0):ruN a n f=n:=by unfold ruN; rw [if_pos h]
theorem ruN1 {a:Act} {n:Nat} {f:Nat→Yr} (h:erA a n f≠0):ruN a n f=0:=by unfold ruN; rw [if_neg h]
theorem ru_true (a:Act) (n:Nat) (f:Nat→Yr) (hn:n<1000):ruG a n f:=by
 rw [ruG_vc]
 simp only [rI,rE,and_true,true_and,Nat.zero_lt_one,and_self,implies_true,a_fold,yrF_fold,yrF2,yrF1,Classical.not_not,Nat.add_zero,Nat.zero_add]
 refine ⟨rfl,hn,fun h=>(ruN1 h).symm,fun h=>⟨rfl,rfl,?_⟩⟩
 obtain ⟨h1,h2,h3⟩:=erA_0 h
 rw [ruN0 h]
 refine ⟨h1,h3,h2,⟨0,rfl,rfl,rfl,rfl,rfl⟩,fun j hj z hz=>?_,fun z hz=>⟨hz,by omega,h.symm⟩⟩
 subst hz
 refine ⟨by omega,by omega,z+1,rfl,rfl,rfl,fun i hi=>⟨app_eq (f:=fun i=>rtA a (f i).pr) hi rfl,app_eq (f:=fun i=>duA a (f i)) hi rfl,app_eq (f:=fun i=>pdA a (stJ a f i) (f i)) hi rfl,app_eq (f:=fun i=>arS a (stJ a f i) (f i)) hi rfl,app_eq (f:=fun i=>nB a (stJ a f i) (f i)) hi rfl,app_eq (f:=fun i=>(stJ a f i).ba+(f i).pf - pdA a (stJ a f i) (f i) - nB a (stJ a f i) (f i)) hi rfl⟩⟩
theorem ruR_flat (a:Act) (n:Nat) (f:Nat→Yr):flatS (ruR a n f):=by simp [ruR,pyL,Pay.sv,flatS,flatSL,i6,SV.cells,scS]
theorem ruX_ok {g:FuncId} (hc:callable Try.prog g=true) (h:∀ (a:Act) (n:Nat) (f:Nat→Yr),n<1000→Does Try.prog g true (SV.denL [a.sv,yrL n f]) (ruR a n f).den):(ruC g).Ok Try.prog:=by
 refine ⟨hc,fun x k hk=>?_⟩
 simp only [ruC] at hk
 split at hk
 ·rename_i a b c d e f n h0
  obtain ⟨hf,hn,hk⟩:=hk
  have hh:=h ⟨a,b,c,d,e,f⟩ n (yrF h0) hn
  rw [← hf] at hh
  exact ⟨_,hh,hk⟩
 ·exact hk.elim
theorem ru_ok:(ruC 16).Ok Try.prog:=ruX_ok (by kernel_rfl) fun a n f hn=>newD csP_sound nilS_x it_ic (ru_true a n f hn) (ruR_flat a n f)
end Go.Proofs.Ytfobgmecnlehaaa

namespace Go.Proofs.Ytfobgmecnlehaaa
open Go Go.Lg
attribute [local irreducible] bodyH funS
end Go.Proofs.Ytfobgmecnlehaaa

set_option maxRecDepth 100000
namespace Go.Proofs.Ytfobgmecnlehaaa
open Go Go.Lg
end Go.Proofs.Ytfobgmecnlehaaa

set_option maxRecDepth 100000
namespace Go.Proofs.Ytfobgmecnlehaaa
open Go Go.Lg
attribute [local irreducible] funS bodyH
end Go.Proofs.Ytfobgmecnlehaaa
