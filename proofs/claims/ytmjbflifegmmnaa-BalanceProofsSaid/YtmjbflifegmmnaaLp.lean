import Derived.Test.YtmjbflifegmmnaaLs
set_option linter.unusedVariables false
set_option linter.unusedSimpArgs false
namespace Go.Lg
variable {P:Program}

end Go.Lg
namespace Go.Lg
variable {P:Program}

def keepFrom (l:List Nat):Nat→List AV→List AV
 | _,[]=>[]
 | i,v :: A=>(if l.contains i then v else .any) :: keepFrom l (i+1) A
def keep (l:List Nat) (A:List AV):List AV:=keepFrom l 0 A

theorem keepFrom_length (l:List Nat):∀ (A:List AV) (i:Nat),(keepFrom l i A).length=A.length
 | [],_=>rfl
 | v :: A,i=>by simp [keepFrom,keepFrom_length l A (i+1)]
theorem keepFrom_get (l:List Nat):∀ (A:List AV) (i j:Nat),j<A.length→(keepFrom l i A).getD j .any=A.getD j .any∨(keepFrom l i A).getD j .any=.any
 | [],_,j,h=>by simp at h
 | v :: A,i,0,_=>by simp only [keepFrom]; split <;> simp
 | v :: A,i,j+1,h=>by
  have:=keepFrom_get l A (i+1) j (by simpa using h)
  simpa [keepFrom] using this

theorem SRel.keep {C:Ctx} {A:List AV} {ρ:Store} {a w} (hs:SRel C a w A ρ) (l:List Nat):SRel C a w (keep l A) ρ :=
 hs.forget _ (keepFrom_length l A 0) (fun i hi=>keepFrom_get l A 0 i hi)

def BelL (n:Nat) (l:List AV):Prop:=∀ a ∈ l,Bel n a
def BelS (n:Nat):Store→Prop
 | []=>True
 | none :: r=>BelS n r
 | some R :: r=>(BelL n R.els∧BelQ n R.ob)∧BelS n r

theorem Bel.cells {n:Nat} {e:AV} (h:Bel n e) (j:Nat):Bel n (e.cells.getD j .any):=by
 cases e with
 | agg c =>
  show Bel n (c.getD j .any)
  by_cases hj:j<c.length
  ·cases h with
   | pure _ hp=>cases hp with
    | agg _ h=>exact .pure _ (h j hj)
   | agg _ h=>exact h j hj
  ·have:c.getD j .any=.any:=by unfold List.getD; rw [List.getElem?_eq_none (by omega)]; rfl
   rw [this]; exact .pure _ .any
 | _ =>
  cases j with
  | zero=>exact h
  | succ j=>exact .pure _ .any

theorem BelL.get {n:Nat} {l:List AV} (h:BelL n l) (i:Nat):Bel n (l.getD i .any):=by
 by_cases hi:i<l.length
 ·have:l.getD i .any=l[i]:=by unfold List.getD; rw [List.getElem?_eq_getElem hi]; rfl
  rw [this]; exact h _ (List.getElem_mem _)
 ·have:l.getD i .any=.any:=by unfold List.getD; rw [List.getElem?_eq_none (by omega)]; rfl
  rw [this]; exact .pure _ .any
theorem BelS.get {n:Nat}:∀ {ρ:Store},BelS n ρ→∀ (r:Nat) (R:Root),ρ[r]?=some (some R)→BelL n R.els∧BelQ n R.ob
 | [],_,r,R,h=>by simp at h
 | none :: ρ,hs,r,R,h=>by
  cases r with
  | zero=>simp at h
  | succ r=>exact BelS.get (ρ:=ρ) hs r R (by simpa using h)
 | some R0 :: ρ,hs,r,R,h=>by
  cases r with
  | zero=>simp at h; subst h; exact hs.1
  | succ r=>exact BelS.get (ρ:=ρ) hs.2 r R (by simpa using h)

section
variable {C:Ctx} {Q:Exit→List AV→Store→Prop} {A:List AV} {ρ:Store}
end

end Go.Lg
namespace Go.Lg
def fr (l:List (Nat × AV)):Nat→Nat→List AV
 | 0,_=>[]
 | n+1,i=>(l.lookup i).getD .any :: fr l n (i+1)
end Go.Lg
