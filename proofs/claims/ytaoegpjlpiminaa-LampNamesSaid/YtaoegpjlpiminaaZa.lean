import Derived.Test.YtaoegpjlpiminaaRows
import Derived.Test.YtaoegpjlpiminaaMkMl
import Derived.Test.YtaoegpjlpiminaaZa0Za1Za2Za3
import Derived.Test.YtaoegpjlpiminaaZa4
import Derived.Test.YtaoegpjlpiminaaZa5
import Derived.Test.YtaoegpjlpiminaaZa6
import Derived.Test.YtaoegpjlpiminaaZa12
set_option linter.unusedVariables false
set_option linter.unusedSimpArgs false
namespace Go.Proofs.Ytaoegpjlpiminaa
open Go Go.Lg
theorem Za_mixed : Try.prog.follows .mixedOrders = true := by kernel_rfl
theorem Za_does : Does Try.prog 6 false [] (.sc (.bool true)) := runTrueT_does (k := 300) Za_mixed (T := [Za0, Za1, Za2, Za3, Za4, Za5, Za6, Za12]) (facts_cons Za0_ok (facts_cons Za1_ok (facts_cons Za2_ok (facts_cons Za3_ok (facts_cons Za4_ok (facts_cons Za5_ok (facts_cons Za6_ok (facts_cons Za12_ok facts_nil)))))))) (by kernel_rfl)
end Go.Proofs.Ytaoegpjlpiminaa
