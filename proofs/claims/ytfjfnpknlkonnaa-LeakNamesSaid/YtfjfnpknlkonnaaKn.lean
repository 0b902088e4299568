import Derived.Test.YtfjfnpknlkonnaaRows
import Derived.Test.YtfjfnpknlkonnaaMkMl
import Derived.Test.YtfjfnpknlkonnaaKn0Kn1Kn2Kn3Kn4
import Derived.Test.YtfjfnpknlkonnaaKn9
namespace Go.Proofs.Ytfjfnpknlkonnaa
open Go Go.Lg
theorem Kn_mixed : Try.prog.follows .mixedOrders = true := by kernel_rfl
theorem Kn_does : Does Try.prog 5 false [] (.sc (.bool true)) := runTrueT_does (k := 300) Kn_mixed (T := [Kn0, Kn1, Kn2, Kn3, Kn4, Kn9]) (facts_cons Kn0_ok (facts_cons Kn1_ok (facts_cons Kn2_ok (facts_cons Kn3_ok (facts_cons Kn4_ok (facts_cons Kn9_ok facts_nil)))))) (by kernel_rfl)
end Go.Proofs.Ytfjfnpknlkonnaa
