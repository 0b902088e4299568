import Derived.Test.YtlhdlkplgafolaaPfPgPhPiPjPk
set_option linter.unusedVariables false
set_option linter.unusedSimpArgs false
namespace Go.Lg
open Go.RowKit
variable {P:Program}
noncomputable def setRows (X:XS) (l:List (Nat × SRow)):XS:=List.rec (motive:=fun _=>XS→XS) (fun X=>X) (fun p _ ih X=>ih (X.set p.1 (some p.2))) l X
def WrOK (P:Program) (f:FuncId) (X0 X1:XS) (args:List SV) (res:SV):Prop:=∀ ext,DoesH P noGhost f (SV.denL args) () (X0.den ++ ext) fun v _ ρ=>v=res.den∧ρ=X1.den ++ ext
structure WCtr where
 f:FuncId
 p:Type
 pre:p→Prop
 X0:p→XS
 ch:p→List (Nat × SRow)
 args:p→List SV
 res:p→SV
 rd:List SV→XS→(p→Prop)→Prop
 rdOK:∀ a X k,rd a X k→∃ s,k s
noncomputable def WCtr.X1 (x:WCtr) (p:x.p):XS:=setRows (x.X0 p) (x.ch p)
def WCtr.Ok (P:Program) (x:WCtr):Prop:=callable P x.f=true∧∀ p,x.pre p→WrOK P x.f (x.X0 p) (x.X1 p) (x.args p) (x.res p)
end Go.Lg
