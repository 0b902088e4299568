import Derived.Test.YtfjfnpknlkonnaaMaMbMc
import Derived.Test.YtfjfnpknlkonnaaLu
set_option linter.unusedVariables false
namespace Go.Lg
open Go.RowKit
variable {P : Program}

def opG (P : Program) (L : List LoopV) (o : Oper) (K : AV → List LS → Store → Prop) (st : List LS) (A : List AV) (ρ : Store) : Prop :=
  (∃ v ρ', aop P o (aev A) ρ v ρ' ∧ K v st ρ') ∨
  (∃ c f g args, o.op = .call c ∧ c.callee = .value f ∧ fnOf (aev A f) (c.args.toList.map (aev A)) = some (g, args) ∧ callable P g = true ∧ DoesG P L g args st ρ K) ∨
  (∃ c f k e, o.op = .call c ∧ c.callee = .value f ∧ L[k]? = some e ∧ aev A f = .yld e.r ∧ YieldG P L k e (c.args.toList.map (aev A)) st ρ (fun b st' ρ' => K (.sc (.bool b)) st' ρ'))

def runG (P : Program) (L : List LoopV) (ops : Array Oper) : List Oper → (List LS → List AV → Store → Prop) → List LS → List AV → Store → Prop
  | [], K, st, A, ρ => K st A ρ
  | o :: r, K, st, A, ρ => match o.guard with
    | none => opG P L o (fun v st' ρ' => runG P L ops r K st' (putA A o.dst v) ρ') st A ρ
    | some (j, want) => match gvalS ops A j want with
      | some b => (b = true → opG P L o (fun v st' ρ' => runG P L ops r K st' (putA A o.dst v) ρ') st A ρ) ∧ (b = false → runG P L ops r K st (putA A o.dst uA) ρ)
      | none => False

section
variable {C : Ctx} {L : List LoopV} {Q : Exit → List LS → List AV → Store → Prop} {st : List LS} {A : List AV} {ρ : Store}

theorem SRelG.skip {a w} (hs : SRelG C L st a w A ρ) (dst : Option Tmp) : SRelG C L st (a.put dst undef) w (putA A dst .any) ρ := by
  obtain ⟨C', hC, h1, h2⟩ := hs.open
  exact h2 _ _ _ _ (h1.skip dst)
theorem SRelG.skipU {a w} (hs : SRelG C L st a w A ρ) (dst : Option Tmp) : SRelG C L st (a.put dst undef) w (putA A dst uA) ρ := by
  obtain ⟨C', hC, h1, h2⟩ := hs.open
  exact h2 _ _ _ _ (h1.skipU dst)
theorem gvalS_specG {ops : Array Oper} {a w j want b} (h : gvalS ops A j want = some b) (hs : SRelG C L st a w A ρ) : (yielded ops a.tmps j == some want) = b := by
  obtain ⟨C', hC, h1, h2⟩ := hs.open
  exact gvalS_spec h h1
theorem wpG_drawW {W : WS} {id : Nat} {ops : Array Oper} (hm : P.follows .mixedOrders = true) (hB : drawOKW W ops = true) (h : RunL P W ops (Q .normal st) ops.toList A ρ) : wpG P C L (.region id ops true) Q st A ρ :=
  wpG_lift (fun C' _ => wpA_drawW hm hB h)
end

end Go.Lg
