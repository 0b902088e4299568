import Derived.Test.YtoeolgeidpjgbaaRows
import Derived.Test.YtoeolgeidpjgbaaMkMl
import Derived.Test.YtoeolgeidpjgbaaAn2
import Derived.Test.YtoeolgeidpjgbaaAn5
import Derived.Test.YtoeolgeidpjgbaaAn6
namespace Go.Proofs.Ytoeolgeidpjgbaa
open Go Go.Lg
theorem An_mixed : Try.prog.follows .mixedOrders = true := by kernel_rfl
theorem An_does : Does Try.prog 14 false [] (.sc (.bool true)) := runTrueT_does (k := 300) An_mixed (T := [An2, An5, An6]) (facts_cons An2_ok (facts_cons An5_ok (facts_cons An6_ok facts_nil))) (by kernel_rfl)
end Go.Proofs.Ytoeolgeidpjgbaa
