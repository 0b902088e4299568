import Derived.Test.YtfobgmecnlehaaaRows
import Derived.Test.YtfobgmecnlehaaaMkMl
import Derived.Test.YtfobgmecnlehaaaYa0Ya1Ya2Ya3Ya4
import Derived.Test.YtfobgmecnlehaaaYa5Ya6Ya7Ya8Ya9
set_option linter.unusedVariables false
set_option linter.unusedSimpArgs false
namespace Go.Proofs.Ytfobgmecnlehaaa
open Go Go.Lg
theorem Ya_mixed : Try.prog.follows .mixedOrders = true := by kernel_rfl
theorem Ya_does : Does Try.prog 5 false [] (.sc (.bool true)) := runTrueT_does (k := 300) Ya_mixed (T := [Ya0, Ya1, Ya2, Ya3, Ya4, Ya9]) (facts_cons Ya0_ok (facts_cons Ya1_ok (facts_cons Ya2_ok (facts_cons Ya3_ok (facts_cons Ya4_ok (facts_cons Ya9_ok facts_nil)))))) (by kernel_rfl)
end Go.Proofs.Ytfobgmecnlehaaa
