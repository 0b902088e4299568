import Derived.Test.YtpannbkmpbioiaaQkQlQlV
set_option linter.unusedVariables false
set_option linter.unusedSimpArgs false
namespace Go.Proofs.Ytpannbkmpbioiaa
open Go Go.Lg
attribute [local irreducible] bodyH
theorem pw_succ (n : Nat) : pw (n + 1) = 2 * pw n := by unfold pw; rw [Nat.pow_succ]; omega
theorem pw_pos (n : Nat) : 0 < pw n := Nat.pow_pos (by omega)
theorem pw_mono {a b : Nat} (h : a ≤ b) : pw a ≤ pw b := Nat.pow_le_pow_right (by omega) h
theorem pw40 {n : Nat} (h : n ≤ 40) : pw n ≤ 1099511627776 := by
  have := pw_mono h
  have e : pw 40 = 1099511627776 := by decide
  omega
theorem pw8 {n : Nat} (h : n ≤ 8) : pw n ≤ 256 := by
  have := pw_mono h
  have e : pw 8 = 256 := by decide
  omega
theorem pow_true {n : Nat} (h : n ≤ 40) : powG n := by
  rw [powG_vc]
  simp only [and_true, true_and]
  refine ⟨⟨0, by omega, rfl, rfl⟩, fun z hz => ⟨fun hlt => ?_, fun hge => ?_⟩⟩
  · have h1 := pw40 (n := z) (by omega)
    have h2 := pw_succ z
    exact ⟨by omega, by omega, z + 1, by omega, by omega, by omega, by omega⟩
  · have : z = n := by omega
    rw [this]
theorem has_true {o n : Int} (ho : 0 ≤ o ∧ o ≤ 1099511627776) (hn : 0 ≤ n ∧ n ≤ 40) : hasG o n := by
  rw [hasG_vc]
  simp only [and_true]
  have hp := pw_pos n.toNat
  have e : o.tdiv (pw n.toNat) = ((o.toNat / pw n.toNat : Nat) : Int) := by
    conv => lhs; rw [show o = ((o.toNat : Nat) : Int) by omega]
    exact (Int.ofNat_tdiv _ _).symm
  have e2 : (((o.toNat / pw n.toNat : Nat) : Int)).tmod 2 = ((o.toNat / pw n.toNat % 2 : Nat) : Int) := (Int.ofNat_tmod _ 2).symm
  rw [e, e2]
  have hd := Nat.div_le_self o.toNat (pw n.toNat)
  have hh : hs o.toNat n.toNat = (o.toNat / pw n.toNat % 2 = 1) := rfl
  rw [hh]
  clear e e2 hh
  generalize o.toNat / pw n.toNat = y at hd ⊢
  exact ⟨hn, fun h => by omega, by omega, fun h => by omega, by omega⟩
theorem dpt_fuel {m : Mn} (hm : okM m) : ∀ (F F' j : Nat), j ≤ F → j ≤ F' → j ≤ m.n → dpt m F j = dpt m F' j
  | 0, 0, j, h, h', hj => rfl
  | 0, F' + 1, j, h, h', hj => by
    have : j = 0 := by omega
    subst this; simp [dpt]
  | F + 1, 0, j, h, h', hj => by
    have : j = 0 := by omega
    subst this; simp [dpt]
  | F + 1, F' + 1, j, h, h', hj => by
    simp only [dpt]
    by_cases h0 : j = 0
    · simp [h0]
    · have := hm (j - 1) (by omega)
      rw [if_neg h0, if_neg h0, dpt_fuel hm F F' _ (by omega) (by omega) (by omega)]
theorem dpt_succ {m : Mn} (hm : okM m) {j : Nat} (h0 : 0 < j) (hj : j ≤ m.n) : dpt m j j = 1 + dpt m (m.fr (j - 1)).toNat (m.fr (j - 1)).toNat := by
  have hf := hm (j - 1) (by omega)
  obtain ⟨i, rfl⟩ : ∃ i, j = i + 1 := ⟨j - 1, by omega⟩
  simp only [dpt]
  rw [if_neg (by omega), dpt_fuel hm i (m.fr (i + 1 - 1)).toNat _ (by omega) (Nat.le_refl _) (by omega)]
theorem atL_fuel {w : Nw} (h : okNet w) {o : Nat} {d : Nat → Int} {s : Int} : ∀ (F F' j : Nat), j ≤ F → j ≤ F' → j < w.j.n → atL w o d s F j = atL w o d s F' j
  | 0, 0, j, h1, h2, hj => rfl
  | 0, F' + 1, j, h1, h2, hj => by
    have : j = 0 := by omega
    subst this; simp [atL]
  | F + 1, 0, j, h1, h2, hj => by
    have : j = 0 := by omega
    subst this; simp [atL]
  | F + 1, F' + 1, j, h1, h2, hj => by
    simp only [atL]
    by_cases h0 : j = 0
    · simp [h0]
    · have hn := h.n
      have := h.okm (j - 1) (by omega)
      rw [if_neg h0, if_neg h0, atL_fuel h F F' _ (by omega) (by omega) (by omega)]
theorem atS_succ {w : Nw} (h : okNet w) {o : Nat} {d : Nat → Int} {s : Int} {j : Nat} (h0 : 0 < j) (hj : j < w.j.n) : atS w o d s j = govd (w.j.go j) (atS w o d s (w.m.fr (j - 1)).toNat - w.m.dr (j - 1) * thr w.m o (j - 1) d w.j.n) := by
  have hn := h.n
  have hf := h.okm (j - 1) (by omega)
  obtain ⟨i, rfl⟩ : ∃ i, j = i + 1 := ⟨j - 1, by omega⟩
  show atL w o d s (i + 1) (i + 1) = _
  simp only [atL]
  rw [if_neg (by omega)]
  unfold atS
  rw [atL_fuel h i _ (w.m.fr (i + 1 - 1)).toNat (by omega) (Nat.le_refl _) (by omega)]
theorem atS_zero {w : Nw} {o : Nat} {d : Nat → Int} {s : Int} : atS w o d s 0 = govd (w.j.go 0) s := rfl
end Go.Proofs.Ytpannbkmpbioiaa

namespace Go.Proofs.Ytpannbkmpbioiaa
open Go Go.Lg
attribute [local irreducible] bodyH
theorem fnd_succ {w : Nw} {j o : Nat} : fndR w j (o + 1) ↔ fndR w j o ∨ onA w j o := by
  constructor
  · rintro ⟨q, hq, h⟩
    rcases Nat.lt_succ_iff_lt_or_eq.1 hq with h' | rfl
    · exact .inl ⟨q, h', h⟩
    · exact .inr h
  · rintro (⟨q, hq, h⟩ | h)
    · exact ⟨q, by omega, h⟩
    · exact ⟨o, by omega, h⟩
theorem fnd_zero {w : Nw} {j : Nat} : ¬ fndR w j 0 := fun ⟨q, hq, _⟩ => by omega
theorem lo_off {w : Nw} {j o : Nat} (h : ¬ onA w j o) : loR w j (o + 1) = loR w j o ∧ upR w j (o + 1) = upR w j o := by simp [loR, upR, h]
theorem lo_on {w : Nw} {j o : Nat} (h : onA w j o) (hf : fndR w j o) : loR w j (o + 1) = min (loR w j o) (lwR w j o) ∧ upR w j (o + 1) = max (upR w j o) (hgR w j o) := by simp [loR, upR, h, hf]
theorem lo_first {w : Nw} {j o : Nat} (h : onA w j o) (hf : ¬ fndR w j o) : loR w j (o + 1) = lwR w j o ∧ upR w j (o + 1) = hgR w j o := by simp [loR, upR, h, hf]
end Go.Proofs.Ytpannbkmpbioiaa
