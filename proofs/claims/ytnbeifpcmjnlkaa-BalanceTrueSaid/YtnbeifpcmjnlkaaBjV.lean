import Derived.Test.YtnbeifpcmjnlkaaBj
set_option linter.unusedVariables false
set_option linter.unusedSimpArgs false
set_option maxRecDepth 100000
namespace Go.Proofs.Ytnbeifpcmjnlkaa
open Go Go.Lg
end Go.Proofs.Ytnbeifpcmjnlkaa
