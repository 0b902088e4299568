import Derived.Test.YtmjbflifegmmnaaLtLt2Lt3
import Derived.Test.YtmjbflifegmmnaaNaNbNc
set_option linter.unusedVariables false
set_option linter.unusedSimpArgs false
namespace Go.Lg
variable {P : Program} {W : WS}


def lowL (ops : Array Oper) (b : Nat) : List Nat := (List.range ops.size).filter fun i => Nat.blt i b
def highL (ops : Array Oper) (b : Nat) : List Nat := (List.range ops.size).filter fun i => Nat.blt b i
def barB (W : WS) (ops : Array Oper) (B : Array Nat) (b : Nat) : Bool := drawB W ops B && Nat.blt b ops.size && ((List.range b).all fun j => bitB B b j) && ((highL ops b).all fun i => bitB B i b)

section
variable {ops : Array Oper} {B : Array Nat} {b : Nat} (hB : drawB W ops B = true) (hb : b < ops.size) (hlo : ∀ j, j < b → bitB B b j = true) (hhi : ∀ i, b < i → i < ops.size → bitB B i b = true)
include hB hb hlo hhi

end

theorem SRelG.drawn {C : Ctx} {L : List LoopV} {st : List LS} {a w A ρ} (hs : SRelG C L st a w A ρ) : SRelG C L st a { w with drawn := w.drawn + 1 } A ρ := by
  obtain ⟨C', h1, h2, h3⟩ := hs.open
  exact h3 _ _ _ _ h2.drawn

end Go.Lg
