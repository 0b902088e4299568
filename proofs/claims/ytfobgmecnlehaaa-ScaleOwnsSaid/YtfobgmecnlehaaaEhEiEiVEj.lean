import Derived.Test.YtfobgmecnlehaaaEeEeVEfEfVEg
set_option linter.unusedVariables false
set_option linter.unusedSimpArgs false
set_option maxRecDepth 100000
namespace Go.Proofs.Ytfobgmecnlehaaa
open Go Go.Lg
attribute [local irreducible] funS bodyH
theorem yrF2 (f:Nat→Yr):(yrF fun i=>(yrF (fun i=>(f i).sv) i).sv)=f:=rfl
theorem yrF1 (f:Nat→Yr) (i:Nat):yrF (fun i=>(f i).sv) i=f i:=rfl
theorem app_eq {α:Type} {z i:Nat} {f:Nat→α} {x:α} (hi:i<z+1) (hx:x=f z):(if i<z then f i else x)=f i:=by
 by_cases h:i<z
 ·rw [if_pos h]
 ·have:i=z:=by omega
  subst this; rw [if_neg h,hx]
theorem ruN0 {a:Act} {n:Nat} {f:Nat→Yr} (h:erA a n f=0):ruN a n f=n:=by unfold ruN; rw [if_pos h]
theorem ruN1 {a:Act} {n:Nat} {f:Nat→Yr} (h:erA a n f≠0):ruN a n f=0:=by unfold ruN; rw [if_neg h]
end Go.Proofs.Ytfobgmecnlehaaa

namespace Go.Proofs.Ytfobgmecnlehaaa
open Go Go.Lg
attribute [local irreducible] bodyH funS
end Go.Proofs.Ytfobgmecnlehaaa

set_option maxRecDepth 100000
namespace Go.Proofs.Ytfobgmecnlehaaa
open Go Go.Lg
end Go.Proofs.Ytfobgmecnlehaaa

set_option maxRecDepth 100000
namespace Go.Proofs.Ytfobgmecnlehaaa
open Go Go.Lg
attribute [local irreducible] funS bodyH
end Go.Proofs.Ytfobgmecnlehaaa
