import Derived.Test.YtlbiegjdfijmfaaMl
import Derived.Test.YtlbiegjdfijmfaaRows
import Derived.Test.YtlbiegjdfijmfaaBn0
import Derived.Test.YtlbiegjdfijmfaaBn1
import Derived.Test.YtlbiegjdfijmfaaBn2
import Derived.Test.YtlbiegjdfijmfaaBn3
import Derived.Test.YtlbiegjdfijmfaaBn4
import Derived.Test.YtlbiegjdfijmfaaBn5
import Derived.Test.YtlbiegjdfijmfaaBn6
import Derived.Test.YtlbiegjdfijmfaaBn7
import Derived.Test.YtlbiegjdfijmfaaBn8
namespace Go.Proofs.Ytlbiegjdfijmfaa
open Go Go.Lg
theorem Bn_mixed : Try.prog.follows .mixedOrders = true := by kernel_rfl
theorem Bn_does : Does Try.prog 6 false [] (.sc (.bool true)) := runTrueT_does (k := 300) Bn_mixed (T := [Bn0, Bn1, Bn2, Bn3, Bn4, Bn5, Bn6, Bn7, Bn8]) (facts_cons Bn0_ok (facts_cons Bn1_ok (facts_cons Bn2_ok (facts_cons Bn3_ok (facts_cons Bn4_ok (facts_cons Bn5_ok (facts_cons Bn6_ok (facts_cons Bn7_ok (facts_cons Bn8_ok facts_nil))))))))) (by kernel_rfl)
end Go.Proofs.Ytlbiegjdfijmfaa
