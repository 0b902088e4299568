import Derived.Test.YtpdcajchppoocaaLt5Lt6Mt2
set_option linter.unusedVariables false
set_option linter.unusedSimpArgs false
namespace Go.Lg
open Go.RowKit
variable {P:Program}

structure LoopE where
 r:Nat
 ps:Array Tmp
 assign:Code
 body:Code
 n:Nat
 A:Tr AV

abbrev CallF:=List LoopE→FuncId→List AV→List LS→RowT→Option (Res × List LS × RowT)
abbrev YieldF:=List LoopE→Nat→LoopE→List AV→List LS→RowT→Option (Bool × List LS × RowT)

def findLoop (r:Nat):List LoopE→Nat→Option (Nat × LoopE)
 | [],_=>none
 | e :: E,k=>match Nat.beq e.r r with
  | true=>some (k,e)
  | false=>findLoop r E (k+1)

def allL {α:Type} (f:α→Bool):List α→Bool
 | []=>true
 | x :: xs=>f x && allL f xs
def mapO {α β:Type} (f:α→Option β):List α→Option (List β)
 | []=>some []
 | x :: xs=>match f x,mapO f xs with
  | some y,some ys=>some (y :: ys)
  | _,_=>none
section
variable {β:Type}
noncomputable def gvalK (ops:Array Oper) (ev:Operand→AV) (j:Nat) (want:Bool) (yes no:Option β):Option β :=
 match (ops[j]?).bind (·.dst) with
 | some d=>(match ev (.tmp d) with
  | .sc (.bool b)=>(match b,want with
   | true,true=>yes
   | false,false=>yes
   | _,_=>no)
  | .sc (.tuple vs)=>(match vs.isEmpty with
   | true=>no
   | false=>none)
  | _=>none)
 | none=>none
end

def rankO (W:WS) (o:Oper):Nat:=match mkindW W o with
 | .n=>0
 | .r=>0
 | .c=>1
 | .q=>1
 | .w=>2
 | .a=>3
def pickO (W:WS) (ops:Array Oper) (B:Array Nat) (done:Nat):List Nat→Option (Nat × Nat)
 | []=>none
 | i :: r=>(match Nat.testBit done i || !Nat.beq (Nat.lor (B.getD i 0) done) done with
  | true=>pickO W ops B done r
  | false=>forceNat (rankO W (opAt ops i)) fun k=>(match pickO W ops B done r with
   | none=>some (k,i)
   | some (m,j)=>(match Nat.ble k m with
    | true=>some (k,i)
    | false=>some (m,j))))
def schedO (W:WS) (ops:Array Oper) (B:Array Nat) (l:List Nat):Nat→Nat→List Nat
 | 0,_=>[]
 | fuel+1,done=>(match pickO W ops B done l with
  | some (_,i)=>i :: schedO W ops B l fuel (Nat.lor done (Nat.shiftLeft 1 i))
  | none=>[])
def floats (ops:Array Oper):List Nat:=ops.size :: (List.range ops.size).filter fun i=>(isAlloc (opAt ops i)).isSome
def findF (W:WS) (ops:Array Oper) (D:DS) (ord:List Nat):List Nat→Option Nat
 | []=>none
 | f :: r=>(match drawOKJ W ops D f ord with
  | true=>some f
  | false=>findF W ops D ord r)
theorem findF_spec {W:WS} {ops:Array Oper} {D:DS} {ord:List Nat}:∀ {l:List Nat} {f:Nat},findF W ops D ord l=some f→drawOKJ W ops D f ord=true
 | [],f,h=>by cases h
 | g :: r,f,h=>by
  unfold findF at h
  split at h
  ·rename_i h1; cases h; exact h1
  ·exact findF_spec h
def planW (W:WS) (ops:Array Oper):Option (WS × List Nat):=forceL forceNat (schedO W ops (befB ops) (List.range ops.size) ops.size 0) fun ord=>match findF W ops [] ord (floats ops),lowOK (befB ops) ops.size with
 | some _,true=>some (W,ord)
 | _,_=>none
theorem planW_spec {W W':WS} {ops:Array Oper} {ord:List Nat} (h:planW W ops=some (W',ord)):W'=W∧(∃ f,drawOKJ W ops [] f ord=true)∧lowOK (befB ops) ops.size=true:=by
 unfold planW at h
 rw [forceL_eq (fun x k=>forceNat_eq x k)] at h
 split at h
 ·rename_i f h1 h2
  cases h
  exact ⟨rfl,⟨f,findF_spec h1⟩,h2⟩
 ·cases h
end Go.Lg

namespace Go.Lg
open Go.RowKit
variable {P:Program}

theorem allL_spec {α:Type} {f:α→Bool}:∀ {l:List α},allL f l=true→∀ x ∈ l,f x=true
 | [],_,x,hx=>by simp at hx
 | y :: l,h,x,hx=>by
  simp only [allL,Bool.and_eq_true] at h
  rcases List.mem_cons.1 hx with rfl | hx
  ·exact h.1
  ·exact allL_spec h.2 x hx
theorem pure_cellsA {a:AV} (h:Pure a) (j:Nat):Pure (a.cells.getD j .any):=by
 cases a with
 | agg c =>
  show Pure (c.getD j .any)
  cases h with
  | agg _ h =>
   by_cases hj:j<c.length
   ·exact h j hj
   ·have:c.getD j .any=.any:=by unfold List.getD; rw [List.getElem?_eq_none (by omega)]; rfl
    rw [this]; exact .any
 | _ =>
  cases j with
  | zero=>exact h
  | succ j=>exact .any
end Go.Lg

namespace Go.Lg
open Go.RowKit
variable {P:Program}

end Go.Lg

namespace Go.Lg
open Go.RowKit
variable {P:Program}

def toE (e:LoopV) (x:LoopE):Prop:=e.r=x.r∧e.ps=x.ps∧e.assign=x.assign∧e.body=x.body∧e.A=fL x.n x.A∧x.n≤512
def Emap (L:List LoopV) (E:List LoopE):Prop:=L.length=E.length∧∀ (k:Nat) e x,L[k]?=some e→E[k]?=some x→toE e x
def SoundC (P:Program) (call:CallF):Prop:=∀ E g args st X v st' X',(∀ x ∈ E,x.n≤512)→call E g args st X=some (v,st',X')→X.n≤512→Good X X'∧∀ L,Emap L E→DoesX P L g args st X.L v st' X'.L
def SoundY (P:Program) (yld:YieldF):Prop:=∀ E i x xs st X b st' X',(∀ x ∈ E,x.n≤512)→yld E i x xs st X=some (b,st',X')→X.n≤512→x.n≤512→Good X X'∧∀ L e,Emap L E→L[i]?=some e→toE e x→YieldG P L i e xs st X.L (fun c s ρ=>c=b∧s=st'∧ρ=X'.L)

section
variable {β:Type}
end

section
variable {call:CallF} {yld:YieldF} (hC:SoundC P call) (hY:SoundY P yld) {E:List LoopE} (hE:∀ x ∈ E,x.n≤512) {n:Nat} (hn:n≤512)
include hC hY hE hn

omit hY hE
end
end Go.Lg
