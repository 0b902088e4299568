import Derived.Test.YtpdcajchppoocaaMt
set_option linter.unusedVariables false
set_option linter.unusedSimpArgs false
namespace Go.Lg
open Go.RowKit
variable {P:Program}


section force
variable {β:Type}
def forceL {α:Type} (f:α→(α→β)→β):List α→(List α→β)→β
 | [],k=>k []
 | x :: xs,k=>f x fun x=>forceL f xs fun xs=>k (x :: xs)
theorem forceL_eq {α:Type} {f:α→(α→β)→β} (hf:∀ x k,f x k=k x):∀ (l:List α) (k:List α→β),forceL f l k=k l
 | [],k=>rfl
 | x :: xs,k=>by simp [forceL,hf,forceL_eq hf xs]
end force

def inRb (K:IntKind) (z:Int):Bool:=match K with
 | .i64=>(match z with
  | .ofNat n=>Nat.blt n 9223372036854775808
  | .negSucc n=>Nat.blt n 9223372036854775808)
 | K=>decide (K.min≤z) && decide (z≤K.max)
def kindEq (K K':IntKind):Bool:=match K,K' with
 | .i64,.i64=>true
 | K,K'=>decide (K=K')
theorem kindEq_spec {K K'} (h:kindEq K K'=true):K=K':=by
 unfold kindEq at h
 split at h
 ·rfl
 ·simpa using h

end Go.Lg

namespace Go.Lg
open Go.RowKit
variable {P:Program} {β:Type}

end Go.Lg

namespace Go.Lg
open Go.RowKit
variable {P:Program} {β:Type}

end Go.Lg
