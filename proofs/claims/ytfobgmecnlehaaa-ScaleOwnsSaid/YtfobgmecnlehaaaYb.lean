import Derived.Test.YtfobgmecnlehaaaRows
import Derived.Test.YtfobgmecnlehaaaMkMl
import Derived.Test.YtfobgmecnlehaaaYb0Yb1Yb2Yb3
set_option linter.unusedVariables false
set_option linter.unusedSimpArgs false
namespace Go.Proofs.Ytfobgmecnlehaaa
open Go Go.Lg
theorem Yb_mixed:Try.prog.follows .mixedOrders=true:=by kernel_rfl
theorem Yb_does:Does Try.prog 15 false [] (.sc (.bool true)):=runTrueT_does (k:=300) Yb_mixed (T:=[Yb0,Yb1,Yb2,Yb3]) (facts_cons Yb0_ok (facts_cons Yb1_ok (facts_cons Yb2_ok (facts_cons Yb3_ok facts_nil)))) (by kernel_rfl)
end Go.Proofs.Ytfobgmecnlehaaa
