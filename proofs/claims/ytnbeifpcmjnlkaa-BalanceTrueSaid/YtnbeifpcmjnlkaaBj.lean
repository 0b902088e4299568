import Derived.Test.YtnbeifpcmjnlkaaBiBiV
set_option linter.unusedVariables false
set_option linter.unusedSimpArgs false
set_option maxRecDepth 100000
namespace Go.Proofs.Ytnbeifpcmjnlkaa
open Go Go.Lg
attribute [local irreducible] bodyH
def awaC : Ctr := ⟨11, fun args k => match args with
  | [] => k (.bool true)
  | _ => False⟩
end Go.Proofs.Ytnbeifpcmjnlkaa
