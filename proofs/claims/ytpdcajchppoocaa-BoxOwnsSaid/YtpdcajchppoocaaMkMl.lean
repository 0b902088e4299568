import Derived.Test.YtpdcajchppoocaaC4
import Derived.Test.YtpdcajchppoocaaMnMo
set_option linter.unusedVariables false
set_option linter.unusedSimpArgs false
set_option linter.unusedSectionVars false
set_option linter.unusedSectionVars false
namespace Go.Lg
open Go.RowKit
variable {P:Program}

section
variable {call:CallF} (hC:SoundC P call) {n:Nat} (hn:n≤512)
include hC hn
end

section
variable {call:CallF} {yld:YieldF} (hC:SoundC P call) (hY:SoundY P yld) (hm:P.follows .mixedOrders=true) {E:List LoopE} (hE:∀ x ∈ E,x.n≤512) {n:Nat} (hn:n≤512)

include hC hY hE hn hm
end

section
variable {call:CallF} {yld:YieldF} (hC:SoundC P call) (hY:SoundY P yld) (hm:P.follows .mixedOrders=true) {E:List LoopE} (hE:∀ x ∈ E,x.n≤512) {n:Nat} (hn:n≤512)
include hC hY hm hE hn

end

section
variable {call:CallF} {yld:YieldF} (hC:SoundC P call) (hY:SoundY P yld) (hm:P.follows .mixedOrders=true) {E:List LoopE} (hE:∀ x ∈ E,x.n≤512)
include hC hY hm hE

end

end Go.Lg

namespace Go.Lg
open Go.RowKit
variable {P:Program}

end Go.Lg
