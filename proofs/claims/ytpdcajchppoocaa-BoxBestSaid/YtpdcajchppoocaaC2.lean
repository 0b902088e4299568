import Derived.RecoverIn
import Derived.Test.YtpdcajchppoocaaC1
import Derived.Test.YtpdcajchppoocaaLtLt2Lt3
set_option linter.unusedVariables false
set_option linter.unusedSimpArgs false
namespace Go.Lg
open Go.RowKit
variable {P:Program}


inductive Res where
 | ret (v:AV)
 | pan (v:Value)

def DoesP (P:Program) (L:List LoopV) (f:FuncId) (args:List AV) (st:List LS) (ρ:Store) (x:Value) (R:List LS→Store→Prop):Prop :=
 ∀ (w:World) (F I:Nat→Prop) (β:Nat→Option Loc) (vals:Array Value),SR w F I β ρ→LStat w I ρ.length β L→LDyn F w L st→RelL (cellf w) I ρ.length β args vals.toList →
  Calls P f vals w fun e w'=>∃ st' ρ' I' β',e=.panicked [{ v:=x,recovered:=false }]∧R st' ρ'∧Keeps (fun b=>F b∧¬ blk L b) w w'∧Grow w w' I I' ρ.length ρ'.length β β'∧SR w' F I' β' ρ'∧LDyn F w' L st'
def DoesX (P:Program) (L:List LoopV) (f:FuncId) (args:List AV) (st:List LS) (ρ:Store):Res→List LS→Store→Prop
 | .ret v,st',ρ'=>DoesG P L f args st ρ (fun a s r=>a=v∧s=st'∧r=ρ')
 | .pan x,st',ρ'=>DoesP P L f args st ρ x (fun s r=>s=st'∧r=ρ')

section
variable {C:Ctx} {L:List LoopV} {st:List LS} {A:List AV} {ρ:Store}

end
end Go.Lg

namespace Go.Lg
open Go.RowKit
variable {P:Program}


section
variable {C:Ctx} {L:List LoopV} {st:List LS} {A:List AV} {ρ:Store} {ds:List (FuncId × List AV)}

end

section
variable {C:Ctx} {L:List LoopV} {st:List LS} {A:List AV} {ρ:Store} {ds:List (FuncId × List AV)}

end
end Go.Lg

namespace Go.Lg
open Go.RowKit
variable {P:Program}

section
variable {L:List LoopV} {st:List LS} {ρ:Store}

end
end Go.Lg

namespace Go.Lg
variable {P : Program} {W : WS}


section
variable {ops : Array Oper} {B : Array Nat} {b : Nat} (hB : drawB W ops B = true) (hb : b < ops.size) (hlo : ∀ j, j < b → bitB B b j = true) (hhi : ∀ i, b < i → i < ops.size → bitB B i b = true)
include hB hb hlo hhi

end

end Go.Lg
