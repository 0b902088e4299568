import Derived.Test.YtmjbflifegmmnaaMj
import Derived.Test.YtmjbflifegmmnaaMnMo
set_option linter.unusedVariables false
set_option linter.unusedSimpArgs false
set_option linter.unusedSectionVars false
set_option linter.unusedSectionVars false
namespace Go.Lg
open Go.RowKit
variable {P:Program}

section
variable {call:CallF} (hC:SoundC P call) {n:Nat} (hn:n≤512)
include hC hn
end

section
variable {call:CallF} {yld:YieldF} (hC:SoundC P call) (hY:SoundY P yld) (hm:P.follows .mixedOrders=true) {E:List LoopE} (hE:∀ x ∈ E,x.n≤512) {n:Nat} (hn:n≤512)

include hC hY hE hn hm
end

section
variable {call:CallF} {yld:YieldF} (hC:SoundC P call) (hY:SoundY P yld) (hm:P.follows .mixedOrders=true) {E:List LoopE} (hE:∀ x ∈ E,x.n≤512) {n:Nat} (hn:n≤512)
include hC hY hm hE hn

end

section
variable {call:CallF} {yld:YieldF} (hC:SoundC P call) (hY:SoundY P yld) (hm:P.follows .mixedOrders=true) {E:List LoopE} (hE:∀ x ∈ E,x.n≤512)
include hC hY hm hE

end

end Go.Lg

namespace Go.Lg
open Go.RowKit
variable {P:Program}

structure Fact where
 g:FuncId
 args:List AV
 n:Nat
 t:Tr (Option Root)
 v:AV
 n':Nat
 lo':Nat
 t':Tr (Option Root)
structure FactOK (P:Program) (F:Fact):Prop where
 hn:F.n≤F.n'
 hn':F.n'≤512
 same:∀ r,r<F.n→r<F.lo'→Tr.get none (path 3 r) F.t'=Tr.get none (path 3 r) F.t
 does:DoesS P F.g F.args (⟨F.n,F.n,F.t⟩:RowT).L (fun a ρ=>a=F.v∧ρ=(⟨F.n',F.lo',F.t'⟩:RowT).L)
end Go.Lg
