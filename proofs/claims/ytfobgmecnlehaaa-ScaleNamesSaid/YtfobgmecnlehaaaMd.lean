import Derived.Test.YtfobgmecnlehaaaMaMbMc
import Derived.Test.YtfobgmecnlehaaaLu
set_option linter.unusedVariables false
set_option linter.unusedSimpArgs false
namespace Go.Lg
open Go.RowKit
variable {P : Program}

section
variable {C : Ctx} {L : List LoopV} {Q : Exit → List LS → List AV → Store → Prop} {st : List LS} {A : List AV} {ρ : Store}

theorem SRelG.skip {a w} (hs : SRelG C L st a w A ρ) (dst : Option Tmp) : SRelG C L st (a.put dst undef) w (putA A dst .any) ρ := by
  obtain ⟨C', hC, h1, h2⟩ := hs.open
  exact h2 _ _ _ _ (h1.skip dst)
theorem SRelG.skipU {a w} (hs : SRelG C L st a w A ρ) (dst : Option Tmp) : SRelG C L st (a.put dst undef) w (putA A dst uA) ρ := by
  obtain ⟨C', hC, h1, h2⟩ := hs.open
  exact h2 _ _ _ _ (h1.skipU dst)
theorem gvalS_specG {ops : Array Oper} {a w j want b} (h : gvalS ops A j want = some b) (hs : SRelG C L st a w A ρ) : (yielded ops a.tmps j == some want) = b := by
  obtain ⟨C', hC, h1, h2⟩ := hs.open
  exact gvalS_spec h h1
theorem wpG_drawW {W : WS} {id : Nat} {ops : Array Oper} (hm : P.follows .mixedOrders = true) (hB : drawOKW W ops = true) (h : RunL P W ops (Q .normal st) ops.toList A ρ) : wpG P C L (.region id ops true) Q st A ρ :=
  wpG_lift (fun C' _ => wpA_drawW hm hB h)
end

end Go.Lg
