import Derived.Test.YtmjbflifegmmnaaMiMi2
set_option linter.unusedVariables false
set_option linter.unusedSimpArgs false
namespace Go.Lg
open Go.RowKit
variable {P:Program}

def toE (e:LoopV) (x:LoopE):Prop:=e.r=x.r∧e.ps=x.ps∧e.assign=x.assign∧e.body=x.body∧e.A=fL x.n x.A∧x.n≤512
def Emap (L:List LoopV) (E:List LoopE):Prop:=L.length=E.length∧∀ (k:Nat) e x,L[k]?=some e→E[k]?=some x→toE e x
theorem Emap.nil:Emap [] []:=⟨rfl,fun k e x h=>by simp at h⟩

theorem DoesX.ret {L f args st ρ v st' ρ'} (h:DoesX P L f args st ρ (.ret v) st' ρ'):DoesG P L f args st ρ (fun a s r=>a=v∧s=st'∧r=ρ'):=h
def SoundC (P:Program) (call:CallF):Prop:=∀ E g args st X v st' X',(∀ x ∈ E,x.n≤512)→call E g args st X=some (v,st',X')→X.n≤512→Good X X'∧∀ L,Emap L E→DoesX P L g args st X.L v st' X'.L
def SoundY (P:Program) (yld:YieldF):Prop:=∀ E i x xs st X b st' X',(∀ x ∈ E,x.n≤512)→yld E i x xs st X=some (b,st',X')→X.n≤512→x.n≤512→Good X X'∧∀ L e,Emap L E→L[i]?=some e→toE e x→YieldG P L i e xs st X.L (fun c s ρ=>c=b∧s=st'∧ρ=X'.L)

section
variable {β:Type}
end

section
variable {call:CallF} {yld:YieldF} (hC:SoundC P call) (hY:SoundY P yld) {E:List LoopE} (hE:∀ x ∈ E,x.n≤512) {n:Nat} (hn:n≤512)
include hC hY hE hn

omit hY hE
end
end Go.Lg
