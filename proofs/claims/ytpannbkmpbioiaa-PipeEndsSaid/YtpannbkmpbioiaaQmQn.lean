import Derived.Test.YtpannbkmpbioiaaQkQlQlV
set_option linter.unusedVariables false
namespace Go.Proofs.Ytpannbkmpbioiaa
open Go Go.Lg
attribute [local irreducible] bodyH
theorem pw_succ (n : Nat) : pw (n + 1) = 2 * pw n := by unfold pw; rw [Nat.pow_succ]; omega
theorem dpt_fuel {m : Mn} (hm : okM m) : ∀ (F F' j : Nat), j ≤ F → j ≤ F' → j ≤ m.n → dpt m F j = dpt m F' j
  | 0, 0, j, h, h', hj => rfl
  | 0, F' + 1, j, h, h', hj => by
    have : j = 0 := by omega
    subst this; simp [dpt]
  | F + 1, 0, j, h, h', hj => by
    have : j = 0 := by omega
    subst this; simp [dpt]
  | F + 1, F' + 1, j, h, h', hj => by
    simp only [dpt]
    by_cases h0 : j = 0
    · simp [h0]
    · have := hm (j - 1) (by omega)
      rw [if_neg h0, if_neg h0, dpt_fuel hm F F' _ (by omega) (by omega) (by omega)]
theorem dpt_succ {m : Mn} (hm : okM m) {j : Nat} (h0 : 0 < j) (hj : j ≤ m.n) : dpt m j j = 1 + dpt m (m.fr (j - 1)).toNat (m.fr (j - 1)).toNat := by
  have hf := hm (j - 1) (by omega)
  obtain ⟨i, rfl⟩ : ∃ i, j = i + 1 := ⟨j - 1, by omega⟩
  simp only [dpt]
  rw [if_neg (by omega), dpt_fuel hm i (m.fr (i + 1 - 1)).toNat _ (by omega) (Nat.le_refl _) (by omega)]
theorem atL_fuel {w : Nw} (h : okNet w) {o : Nat} {d : Nat → Int} {s : Int} : ∀ (F F' j : Nat), j ≤ F → j ≤ F' → j < w.j.n → atL w o d s F j = atL w o d s F' j
  | 0, 0, j, h1, h2, hj => rfl
  | 0, F' + 1, j, h1, h2, hj => by
    have : j = 0 := by omega
    subst this; simp [atL]
  | F + 1, 0, j, h1, h2, hj => by
    have : j = 0 := by omega
    subst this; simp [atL]
  | F + 1, F' + 1, j, h1, h2, hj => by
    simp only [atL]
    by_cases h0 : j = 0
    · simp [h0]
    · have hn := h.n
      have := h.okm (j - 1) (by omega)
      rw [if_neg h0, if_neg h0, atL_fuel h F F' _ (by omega) (by omega) (by omega)]
theorem atS_succ {w : Nw} (h : okNet w) {o : Nat} {d : Nat → Int} {s : Int} {j : Nat} (h0 : 0 < j) (hj : j < w.j.n) : atS w o d s j = govd (w.j.go j) (atS w o d s (w.m.fr (j - 1)).toNat - w.m.dr (j - 1) * thr w.m o (j - 1) d w.j.n) := by
  have hn := h.n
  have hf := h.okm (j - 1) (by omega)
  obtain ⟨i, rfl⟩ : ∃ i, j = i + 1 := ⟨j - 1, by omega⟩
  show atL w o d s (i + 1) (i + 1) = _
  simp only [atL]
  rw [if_neg (by omega)]
  unfold atS
  rw [atL_fuel h i _ (w.m.fr (i + 1 - 1)).toNat (by omega) (Nat.le_refl _) (by omega)]
theorem atS_zero {w : Nw} {o : Nat} {d : Nat → Int} {s : Int} : atS w o d s 0 = govd (w.j.go 0) s := rfl
end Go.Proofs.Ytpannbkmpbioiaa

set_option linter.unusedVariables false
namespace Go.Proofs.Ytpannbkmpbioiaa
open Go Go.Lg
attribute [local irreducible] bodyH
end Go.Proofs.Ytpannbkmpbioiaa
