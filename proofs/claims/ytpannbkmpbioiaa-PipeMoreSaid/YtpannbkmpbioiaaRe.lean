import Derived.Test.YtpannbkmpbioiaaRbRcRd
set_option linter.unusedVariables false
namespace Go.Proofs.Ytpannbkmpbioiaa
open Go Go.Lg
def n50 : AV := .agg [I 100, I 110, .isl 5 [.agg [I 0, I 0, I 0, I 200, J 0], .agg [I 2, I 5, I 60, I 110, J 0], .agg [I 1, I 4, I 50, I 110, J 0], .agg [I 3, I 3, I 0, I 40, I 30]], .isl 4 [.agg [I 0, I 2, I 0, I 10], .agg [I 1, I 4, I 0, I 7], .agg [I 0, I 5, I 2, I 3]]]
def n80 : AV := .agg [I 100, I 110, .isl 5 [.agg [I 0, I 0, I 0, I 200, J 0], .agg [I 2, I 5, I 60, I 110, J 0], .agg [I 1, I 4, I 80, I 110, J 0], .agg [I 3, I 3, I 0, I 40, I 30]], .isl 4 [.agg [I 0, I 2, I 0, I 10], .agg [I 1, I 4, I 0, I 7], .agg [I 0, I 5, I 2, I 3]]]
theorem d12_does : Does Try.prog 12 false [n50, I 3] (.tup [I 1, I 0]) := runVT_does (k := 300) rb_mixed (T := []) facts_nil (by kernel_rfl)
theorem d14_does : Does Try.prog 14 false [n50, I 2] (.tup [.agg [I 66, I 100], I 0]) := runVT_does (k := 300) rb_mixed (T := []) facts_nil (by kernel_rfl)
theorem d16a_does : Does Try.prog 16 false [n50] (.tup [I 0, .sc (.bool false), I 4]) := runVT_does (k := 300) rb_mixed (T := []) facts_nil (by kernel_rfl)
theorem d16b_does : Does Try.prog 16 false [n80] (.tup [I 2, .sc (.bool true), I 0]) := runVT_does (k := 300) rb_mixed (T := []) facts_nil (by kernel_rfl)
theorem d40_does : Does Try.prog 40 false [n80] (.sc (.bool true)) := runVT_does (k := 300) rb_mixed (T := []) facts_nil (by kernel_rfl)
theorem d42_does : Does Try.prog 42 false [n80] (.tup [.agg [.sc (.bool true), .sc (.bool true), .sc (.bool false), .sc (.bool false), .sc (.bool false), .sc (.bool false), .sc (.bool false), .sc (.bool false)], .sc (.bool true)]) := runVT_does (k := 300) rb_mixed (T := [ga0, ga1, ga2, ga3, ga4, ga5, ga6, ga7]) (facts_cons ga0_ok (facts_cons ga1_ok (facts_cons ga2_ok (facts_cons ga3_ok (facts_cons ga4_ok (facts_cons ga5_ok (facts_cons ga6_ok (facts_cons ga7_ok facts_nil)))))))) (by kernel_rfl)
theorem d47_does : Does Try.prog 47 false [n80] (.tup [.agg [.sc (.bool true), .sc (.bool true), .sc (.bool false), .sc (.bool false), .sc (.bool false), .sc (.bool false), .sc (.bool false), .sc (.bool false)], .sc (.bool true)]) := runVT_does (k := 300) rb_mixed (T := [ga0, ga1, ga2, ga3, ga4, ga5, ga6, ga7]) (facts_cons ga0_ok (facts_cons ga1_ok (facts_cons ga2_ok (facts_cons ga3_ok (facts_cons ga4_ok (facts_cons ga5_ok (facts_cons ga6_ok (facts_cons ga7_ok facts_nil)))))))) (by kernel_rfl)
theorem d43_does : Does Try.prog 43 false [.agg [.sc (.bool true), .sc (.bool true), .sc (.bool false), .sc (.bool false), .sc (.bool false), .sc (.bool false), .sc (.bool false), .sc (.bool false)]] (.isl 1 [.agg [I 0], .agg [I 1]]) := runVT_does (k := 300) rb_mixed (T := []) facts_nil (by kernel_rfl)
theorem d44_does : Does Try.prog 44 false [.agg [.sc (.bool true), .sc (.bool true), .sc (.bool false), .sc (.bool false), .sc (.bool false), .sc (.bool false), .sc (.bool false), .sc (.bool false)], .isl 4 [.agg [I 0, I 2, I 0, I 10], .agg [I 1, I 4, I 0, I 7], .agg [I 0, I 5, I 2, I 3]]] (I 17) := runVT_does (k := 300) rb_mixed (T := []) facts_nil (by kernel_rfl)
theorem d22_does : Does Try.prog 22 false [.isl 1 [.agg [I 0], .agg [I 1]], .isl 1 [I 0, I 1]] (.sc (.bool true)) := runVT_does (k := 300) rb_mixed (T := []) facts_nil (by kernel_rfl)
end Go.Proofs.Ytpannbkmpbioiaa
