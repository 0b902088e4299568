import Derived.Test.YtpannbkmpbioiaaMkMl
import Derived.Test.YtpannbkmpbioiaaPfPgPh
set_option linter.unusedVariables false
namespace Go.Lg
open Go.RowKit
variable {P : Program}
abbrev I (n : Nat) : AV := .sc (.int .i64 (.ofNat n))
abbrev J (n : Nat) : AV := .sc (.int .i64 (.negSucc n))
abbrev B1 : AV := .sc (.bool true)
abbrev B0 : AV := .sc (.bool false)
abbrev N1 {α : Type} (a : Tr α) : Tr α := .node a .nil .nil .nil .nil .nil .nil .nil
noncomputable def runVT (P : Program) (T : List Fact) (k : Nat) (f : FuncId) (args : List AV) (res : AV) : Bool := match evFun P (evF P T k).1 (evF P T k).2 k [] f args [] ⟨0, 0, .nil⟩ with
  | some (.ret v, _, X) => (match snapE 0 X 12 v with
    | some v' => eqA 12 v' res
    | none => false)
  | _ => false
theorem runVT_does (hm : P.follows .mixedOrders = true) {T : List Fact} (hT : ∀ F ∈ T, FactOK P F) {k : Nat} {f : FuncId} {args : List AV} {res : AV} (h : runVT P T k f args res = true) : Does P f false args res := by
  unfold runVT at h
  split at h
  · rename_i v st X hev
    split at h
    · rename_i v' hsn
      obtain rfl := eqA_spec h
      obtain ⟨hg, hd⟩ := evFun_sound (evF_sound hm hT k).1 (evF_sound hm hT k).2 hm k [] f args [] _ _ _ _ (fun x hx => by simp at hx) hev (by simp)
      have hd := hd [] Emap.nil
      have hd : DoesG P [] f args [] [] (fun a s ρ => a = v ∧ s = st ∧ ρ = X.L) := hd
      exact hd.toDoes (snapE_spec (fun _ _ _ _ _ => trivial) hsn)
    · cases h
  · cases h
end Go.Lg
