import Derived.Test.YtaoegpjlpiminaaRows
import Derived.Test.YtaoegpjlpiminaaMkMl
import Derived.Test.YtaoegpjlpiminaaZb0Zb1Zb2Zb3
import Derived.Test.YtaoegpjlpiminaaZb4
set_option linter.unusedVariables false
set_option linter.unusedSimpArgs false
namespace Go.Proofs.Ytaoegpjlpiminaa
open Go Go.Lg
theorem Zb_mixed : Try.prog.follows .mixedOrders = true := by kernel_rfl
theorem Zb_does : Does Try.prog 14 false [] (.sc (.bool true)) := runTrueT_does (k := 300) Zb_mixed (T := [Zb0, Zb1, Zb2, Zb3, Zb4]) (facts_cons Zb0_ok (facts_cons Zb1_ok (facts_cons Zb2_ok (facts_cons Zb3_ok (facts_cons Zb4_ok facts_nil))))) (by kernel_rfl)
end Go.Proofs.Ytaoegpjlpiminaa
