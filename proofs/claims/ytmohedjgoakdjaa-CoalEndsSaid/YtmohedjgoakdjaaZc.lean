import Derived.Test.YtmohedjgoakdjaaRows
import Derived.Test.YtmohedjgoakdjaaMkMl
import Derived.Test.YtmohedjgoakdjaaZc0Zc1Zc2Zc3Zc4
set_option linter.unusedVariables false
set_option linter.unusedSimpArgs false
namespace Go.Proofs.Ytmohedjgoakdjaa
open Go Go.Lg
theorem Zc_mixed:Try.prog.follows .mixedOrders=true:=by kernel_rfl
theorem Zc_does:Does Try.prog 10 false [] (.sc (.bool true)):=runTrueT_does (k:=300) Zc_mixed (T:=[Zc0,Zc1,Zc2,Zc3,Zc4]) (facts_cons Zc0_ok (facts_cons Zc1_ok (facts_cons Zc2_ok (facts_cons Zc3_ok (facts_cons Zc4_ok facts_nil))))) (by kernel_rfl)
end Go.Proofs.Ytmohedjgoakdjaa
