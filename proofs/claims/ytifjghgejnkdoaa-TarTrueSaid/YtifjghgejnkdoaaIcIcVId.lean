import Derived.Test.YtifjghgejnkdoaaIaIaVIb
set_option linter.unusedVariables false
set_option linter.unusedSimpArgs false
namespace Go.Proofs.Ytifjghgejnkdoaa
open Go Go.Lg
attribute [local irreducible] bodyH funS
end Go.Proofs.Ytifjghgejnkdoaa

set_option maxRecDepth 100000
namespace Go.Proofs.Ytifjghgejnkdoaa
open Go Go.Lg
end Go.Proofs.Ytifjghgejnkdoaa

set_option maxRecDepth 100000
namespace Go.Proofs.Ytifjghgejnkdoaa
open Go Go.Lg
attribute [local irreducible] funS bodyH
end Go.Proofs.Ytifjghgejnkdoaa
