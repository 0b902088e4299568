import Derived.Test.YtmjbflifegmmnaaLp
set_option linter.unusedVariables false
set_option linter.unusedSimpArgs false
namespace Go.Lg
variable {P:Program}

def packN (P:Program) (t:TypeId):Option (Option Nat):=if known P t then some (if aggB P t then some (P.cellsOf t) else none) else none
def packC (q:Option (Option Nat)) (cs:List AV):Option AV:=match q with
 | some (some n)=>if n≤cs.length then some (.agg (cs.take n)) else none
 | some none=>cs.head?
 | none=>none
theorem packC_eq (t:TypeId) (cs:List AV):packC (packN P t) cs=pack P t cs:=by
 unfold packC packN pack
 by_cases h:known P t=true <;> by_cases h2:aggB P t=true <;> simp [h,h2]
def fieldOff (P:Program) (s:TypeId) (f:Nat):Option (Nat × Option (Option Nat)):=match P.underlying s with
 | some (.struct fs)=>(match fs[f]? with
  | some fd=>if known P fd.type=true∧P.cellsOf fd.type≠0 then some (fd.offset,packN P fd.type) else none
  | none=>none)
 | _=>none
def slElem (P:Program) (t:TypeId):Option (TypeId × Nat):=match P.underlying t with
 | some (.slice e)=>if known P e then some (e,P.cellsOf e) else none
 | _=>none
def arElem (P:Program) (t:TypeId):Option (Nat × TypeId × Nat):=match P.underlying t with
 | some (.array n e)=>if known P e then some (n,e,P.cellsOf e) else none
 | _=>none

theorem slElem_spec {t:TypeId} {q} (h:slElem P t=some q):P.underlying t=some (.slice q.1)∧known P q.1=true∧q.2=P.cellsOf q.1:=by
 unfold slElem at h
 split at h
 ·rename_i e hu
  split at h
  ·rename_i hk; cases h; exact ⟨hu,hk,rfl⟩
  ·cases h
 ·cases h
theorem arElem_spec {t:TypeId} {q} (h:arElem P t=some q):P.underlying t=some (.array q.1 q.2.1)∧known P q.2.1=true∧q.2.2=P.cellsOf q.2.1:=by
 unfold arElem at h
 split at h
 ·rename_i n e hu
  split at h
  ·rename_i hk; cases h; exact ⟨hu,hk,rfl⟩
  ·cases h
 ·cases h

section
variable {C:Ctx} {Q:Exit→List AV→Store→Prop} {A:List AV} {ρ:Store}
end
end Go.Lg
