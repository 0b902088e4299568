import Derived.Test.YtoeolgeidpjgbaaRows
import Derived.Test.YtoeolgeidpjgbaaMl
import Derived.Test.YtoeolgeidpjgbaaHn7
import Derived.Test.YtoeolgeidpjgbaaHn10
import Derived.Test.YtoeolgeidpjgbaaHn11
import Derived.Test.YtoeolgeidpjgbaaHn12
import Derived.Test.YtoeolgeidpjgbaaHn13
import Derived.Test.YtoeolgeidpjgbaaHn14
import Derived.Test.YtoeolgeidpjgbaaHn15
namespace Go.Proofs.Ytoeolgeidpjgbaa
open Go Go.Lg
theorem Hn_mixed : Try.prog.follows .mixedOrders = true := by kernel_rfl
theorem Hn_does : Does Try.prog 7 false [] (.sc (.bool true)) := runTrueT_does (k := 300) Hn_mixed (T := [Hn7, Hn10, Hn11, Hn12, Hn13, Hn14, Hn15]) (facts_cons Hn7_ok (facts_cons Hn10_ok (facts_cons Hn11_ok (facts_cons Hn12_ok (facts_cons Hn13_ok (facts_cons Hn14_ok (facts_cons Hn15_ok facts_nil))))))) (by kernel_rfl)
end Go.Proofs.Ytoeolgeidpjgbaa
