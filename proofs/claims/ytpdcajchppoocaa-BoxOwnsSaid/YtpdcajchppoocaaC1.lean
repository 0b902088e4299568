import Derived.Test.YtpdcajchppoocaaC0
import Derived.Test.YtpdcajchppoocaaMaMbMc
set_option linter.unusedVariables false
set_option linter.unusedSimpArgs false
namespace Go.Lg
variable {P:Program}

def packN (P:Program) (t:TypeId):Option (Option Nat):=if known P t then some (if aggB P t then some (P.cellsOf t) else none) else none
def packC (q:Option (Option Nat)) (cs:List AV):Option AV:=match q with
 | some (some n)=>if n≤cs.length then some (.agg (cs.take n)) else none
 | some none=>cs.head?
 | none=>none
theorem packC_eq (t:TypeId) (cs:List AV):packC (packN P t) cs=pack P t cs:=by
 unfold packC packN pack
 by_cases h:known P t=true <;> by_cases h2:aggB P t=true <;> simp [h,h2]
def fieldOff (P:Program) (s:TypeId) (f:Nat):Option (Nat × Option (Option Nat)):=match P.underlying s with
 | some (.struct fs)=>(match fs[f]? with
  | some fd=>if known P fd.type=true∧P.cellsOf fd.type≠0 then some (fd.offset,packN P fd.type) else none
  | none=>none)
 | _=>none
def slElem (P:Program) (t:TypeId):Option (TypeId × Nat):=match P.underlying t with
 | some (.slice e)=>if known P e then some (e,P.cellsOf e) else none
 | _=>none
def arElem (P:Program) (t:TypeId):Option (Nat × TypeId × Nat):=match P.underlying t with
 | some (.array n e)=>if known P e then some (n,e,P.cellsOf e) else none
 | _=>none

theorem slElem_spec {t:TypeId} {q} (h:slElem P t=some q):P.underlying t=some (.slice q.1)∧known P q.1=true∧q.2=P.cellsOf q.1:=by
 unfold slElem at h
 split at h
 ·rename_i e hu
  split at h
  ·rename_i hk; cases h; exact ⟨hu,hk,rfl⟩
  ·cases h
 ·cases h
theorem arElem_spec {t:TypeId} {q} (h:arElem P t=some q):P.underlying t=some (.array q.1 q.2.1)∧known P q.2.1=true∧q.2.2=P.cellsOf q.2.1:=by
 unfold arElem at h
 split at h
 ·rename_i n e hu
  split at h
  ·rename_i hk; cases h; exact ⟨hu,hk,rfl⟩
  ·cases h
 ·cases h

section
variable {C:Ctx} {Q:Exit→List AV→Store→Prop} {A:List AV} {ρ:Store}
end
end Go.Lg

namespace Go.Lg
open Go.RowKit
variable {P:Program}

def opG (P:Program) (L:List LoopV) (o:Oper) (K:AV→List LS→Store→Prop) (st:List LS) (A:List AV) (ρ:Store):Prop :=
 (∃ v ρ',aop P o (aev A) ρ v ρ'∧K v st ρ') ∨
 (∃ c f g args,o.op=.call c∧c.callee=.value f∧fnOf (aev A f) (c.args.toList.map (aev A))=some (g,args)∧callable P g=true∧DoesG P L g args st ρ K) ∨
 (∃ c f k e,o.op=.call c∧c.callee=.value f∧L[k]?=some e∧aev A f=.yld e.r∧YieldG P L k e (c.args.toList.map (aev A)) st ρ (fun b st' ρ'=>K (.sc (.bool b)) st' ρ'))

def runG (P:Program) (L:List LoopV) (ops:Array Oper):List Oper→(List LS→List AV→Store→Prop)→List LS→List AV→Store→Prop
 | [],K,st,A,ρ=>K st A ρ
 | o :: r,K,st,A,ρ=>match o.guard with
  | none=>opG P L o (fun v st' ρ'=>runG P L ops r K st' (putA A o.dst v) ρ') st A ρ
  | some (j,want)=>match gvalS ops A j want with
   | some b=>(b=true→opG P L o (fun v st' ρ'=>runG P L ops r K st' (putA A o.dst v) ρ') st A ρ)∧(b=false→runG P L ops r K st (putA A o.dst uA) ρ)
   | none=>False

section
variable {C:Ctx} {L:List LoopV} {Q:Exit→List LS→List AV→Store→Prop} {st:List LS} {A:List AV} {ρ:Store}

end

theorem SR.trim {w F I β ρ} (hs:SR w F I β ρ) (n:Nat) (hn:n≤ρ.length) (h:BelS n (ρ.take n)):SR w F I β (ρ.take n):=by
 have hlen:(ρ.take n).length=n:=by simp; omega
 have old:∀ (r:Nat) (R:Root),(ρ.take n)[r]?=some (some R)→r<n∧ρ[r]?=some (some R):=by
  intro r R h
  have h1:r<(ρ.take n).length:=(List.getElem?_eq_some_iff.1 h).1
  rw [hlen] at h1
  rw [List.getElem?_take_of_lt h1] at h
  exact ⟨h1,h⟩
 constructor
 ·intro r R l h1 h2; exact hs.real r R l (old r R h1).2 h2
 ·intro r R l h1 h2 i hi
  obtain ⟨h3,h4⟩:=old r R h1
  obtain ⟨b1,b2⟩:=hs.cells r R l h4 h2 i hi
  refine ⟨b1,fun j hj=>?_⟩
  obtain ⟨u,h5,h6⟩:=b2 j hj
  exact ⟨u,h5,by rw [hlen]; exact h6.bel (((h.get r R h1).1.get i).cells j)⟩
 ·intro r R h1; exact hs.phantom r R (old r R h1).2
 ·intro r s R S l m h1 h2; exact hs.inj r s R S l m (old r R h1).2 (old s S h2).2
 ·exact hs.ilt
 ·exact hs.flt
 ·intro r R l h1; exact hs.thaw r R l (old r R h1).2
 ·intro r R o h1 h2
  obtain ⟨h3,h4⟩:=old r R h1
  obtain ⟨e,l,x,h5,h6,h7⟩:=hs.obs r R o h4 h2
  exact ⟨e,l,x,h5,h6,by rw [hlen]; exact h7.bel (h2 ▸ (h.get r R h1).2)⟩

end Go.Lg
