import Derived.Test.YtpannbkmpbioiaaQkQlQlV
set_option linter.unusedVariables false
namespace Go.Proofs.Ytpannbkmpbioiaa
open Go Go.Lg
attribute [local irreducible] bodyH
theorem pw_succ (n : Nat) : pw (n + 1) = 2 * pw n := by unfold pw; rw [Nat.pow_succ]; omega
theorem pw_pos (n : Nat) : 0 < pw n := Nat.pow_pos (by omega)
theorem pw_mono {a b : Nat} (h : a ≤ b) : pw a ≤ pw b := Nat.pow_le_pow_right (by omega) h
theorem pw40 {n : Nat} (h : n ≤ 40) : pw n ≤ 1099511627776 := by
  have := pw_mono h
  have e : pw 40 = 1099511627776 := by decide
  omega
theorem pow_true {n : Nat} (h : n ≤ 40) : powG n := by
  rw [powG_vc]
  simp only [and_true, true_and]
  refine ⟨⟨0, by omega, rfl, rfl⟩, fun z hz => ⟨fun hlt => ?_, fun hge => ?_⟩⟩
  · have h1 := pw40 (n := z) (by omega)
    have h2 := pw_succ z
    exact ⟨by omega, by omega, z + 1, by omega, by omega, by omega, by omega⟩
  · have : z = n := by omega
    rw [this]
theorem has_true {o n : Int} (ho : 0 ≤ o ∧ o ≤ 1099511627776) (hn : 0 ≤ n ∧ n ≤ 40) : hasG o n := by
  rw [hasG_vc]
  simp only [and_true]
  have hp := pw_pos n.toNat
  have e : o.tdiv (pw n.toNat) = ((o.toNat / pw n.toNat : Nat) : Int) := by
    conv => lhs; rw [show o = ((o.toNat : Nat) : Int) by omega]
    exact (Int.ofNat_tdiv _ _).symm
  have e2 : (((o.toNat / pw n.toNat : Nat) : Int)).tmod 2 = ((o.toNat / pw n.toNat % 2 : Nat) : Int) := (Int.ofNat_tmod _ 2).symm
  rw [e, e2]
  have hd := Nat.div_le_self o.toNat (pw n.toNat)
  have hh : hs o.toNat n.toNat = (o.toNat / pw n.toNat % 2 = 1) := rfl
  rw [hh]
  clear e e2 hh
  generalize o.toNat / pw n.toNat = y at hd ⊢
  exact ⟨hn, fun h => by omega, by omega, fun h => by omega, by omega⟩
theorem up_shift (m : Mn) (j : Nat) : ∀ i, up m j (i + 1) = up m (m.fr (j - 1)).toNat i
  | 0 => rfl
  | i + 1 => by
    show (m.fr (up m j (i + 1) - 1)).toNat = _
    rw [up_shift m j i]; rfl
theorem dpt_fuel {m : Mn} (hm : okM m) : ∀ (F F' j : Nat), j ≤ F → j ≤ F' → j ≤ m.n → dpt m F j = dpt m F' j
  | 0, 0, j, h, h', hj => rfl
  | 0, F' + 1, j, h, h', hj => by
    have : j = 0 := by omega
    subst this; simp [dpt]
  | F + 1, 0, j, h, h', hj => by
    have : j = 0 := by omega
    subst this; simp [dpt]
  | F + 1, F' + 1, j, h, h', hj => by
    simp only [dpt]
    by_cases h0 : j = 0
    · simp [h0]
    · have := hm (j - 1) (by omega)
      rw [if_neg h0, if_neg h0, dpt_fuel hm F F' _ (by omega) (by omega) (by omega)]
theorem dpt_succ {m : Mn} (hm : okM m) {j : Nat} (h0 : 0 < j) (hj : j ≤ m.n) : dpt m j j = 1 + dpt m (m.fr (j - 1)).toNat (m.fr (j - 1)).toNat := by
  have hf := hm (j - 1) (by omega)
  obtain ⟨i, rfl⟩ : ∃ i, j = i + 1 := ⟨j - 1, by omega⟩
  simp only [dpt]
  rw [if_neg (by omega), dpt_fuel hm i (m.fr (i + 1 - 1)).toNat _ (by omega) (Nat.le_refl _) (by omega)]
theorem dpt_zero (m : Mn) : dpt m 0 0 = 0 := rfl
theorem on_zero (m : Mn) (o : Nat) : onW m o 0 := fun i hi => by rw [dpt_zero] at hi; omega
theorem on_succ {m : Mn} (hm : okM m) (o : Nat) {j : Nat} (h0 : 0 < j) (hj : j ≤ m.n) : onW m o j ↔ hs o (j - 1) ∧ onW m o (m.fr (j - 1)).toNat := by
  unfold onW
  rw [dpt_succ hm h0 hj]
  constructor
  · intro h
    refine ⟨h 0 (by omega), fun i hi => ?_⟩
    have := h (i + 1) (by omega)
    rwa [up_shift] at this
  · rintro ⟨h1, h2⟩ i hi
    cases i with
    | zero => exact h1
    | succ i => rw [up_shift]; exact h2 i (by omega)
theorem beh_zero (m : Mn) (q : Nat) : ¬ behW m q 0 := fun ⟨i, hi, _⟩ => by rw [dpt_zero] at hi; omega
theorem beh_succ {m : Mn} (hm : okM m) (q : Nat) {j : Nat} (h0 : 0 < j) (hj : j ≤ m.n) : behW m q j ↔ j = q + 1 ∨ behW m q (m.fr (j - 1)).toNat := by
  unfold behW
  rw [dpt_succ hm h0 hj]
  constructor
  · rintro ⟨i, hi, h⟩
    cases i with
    | zero => exact .inl h
    | succ i => exact .inr ⟨i, by omega, by rw [← up_shift]; exact h⟩
  · rintro (h | ⟨i, hi, h⟩)
    · exact ⟨0, by omega, h⟩
    · exact ⟨i + 1, by omega, by rw [up_shift]; exact h⟩
theorem is_true {M : Nat} {w : Nw} {o z : Int} (ho : 0 ≤ o ∧ o ≤ 1099511627776) (hn : w.m.n ≤ 40) (hm : okM w.m) (hz : 0 ≤ z ∧ z ≤ w.m.n) (hM : z.toNat < M + 1) : isG M w o z := by
  rw [isG_vc]
  simp only [and_true, true_and, Nat.zero_lt_one, implies_true, Bool.false_eq_true, false_iff, true_iff]
  refine ⟨fun h => by subst h; exact on_zero _ _, fun h => ?_⟩
  have e : (z - 1).toNat = z.toNat - 1 := by omega
  rw [e]
  have hf := hm (z.toNat - 1) (by omega)
  have hs := on_succ hm o.toNat (j := z.toNat) (by omega) (by omega)
  exact ⟨by omega, by omega, fun h1 => ⟨by omega, by omega, by omega, ⟨ho, hn, hm, by omega, by omega⟩, by rw [hs]; exact ⟨fun h => ⟨h1, h⟩, fun h => h.2⟩⟩, fun h1 h => h1 (hs.1 h).1⟩
theorem beh_true {M : Nat} {w : Nw} {q z : Int} (hq : 0 ≤ q ∧ q ≤ 40) (hn : w.m.n ≤ 40) (hm : okM w.m) (hz : 0 ≤ z ∧ z ≤ w.m.n) (hM : z.toNat < M + 1) : behG M w q z := by
  rw [behG_vc]
  simp only [and_true, true_and, Nat.zero_lt_one, implies_true, Bool.false_eq_true, false_iff, true_iff]
  refine ⟨by omega, fun h => ?_, fun h => ⟨fun h0 => ?_, fun h0 => ?_⟩⟩
  · rw [beh_succ hm _ (by omega) (by omega)]; left; omega
  · have e : (z - 1).toNat = z.toNat - 1 := by omega
    rw [e]
    have hf := hm (z.toNat - 1) (by omega)
    refine ⟨by omega, by omega, by omega, ⟨hq, hn, hm, by omega, by omega⟩, ?_⟩
    rw [beh_succ hm _ (j := z.toNat) (by omega) (by omega)]
    exact ⟨.inr, fun h1 => h1.resolve_left (by omega)⟩
  · have : z = 0 := by omega
    subst this; exact beh_zero _ _
theorem thr_le {m : Mn} {o q : Nat} {n : Nat} {d : Nat → Int} (hd : dOK n d) : ∀ {J : Nat}, J ≤ n → 0 ≤ thr m o q d J ∧ thr m o q d J ≤ 1000000 * (J : Int)
  | 0, _ => by simp [thr]
  | J + 1, h => by
    have ih := thr_le (m := m) (o := o) (q := q) hd (J := J) (by omega)
    have h1 := hd.h J (by omega)
    simp only [thr]
    split <;> omega
theorem thr_true {w : Nw} {o q : Int} {d : Nat → Int} (h : okNet w) (ho : 0 ≤ o ∧ o ≤ 1099511627776) (hq : 0 ≤ q ∧ q < w.m.n) (hd : dOK w.j.n d) : thrG w o q d := by
  rw [thrG_vc]
  simp only [and_true, true_and, Nat.zero_lt_one, implies_true, Int.toNat_natCast]
  have hn := h.n
  refine ⟨⟨0, by omega, rfl, rfl⟩, fun z hz => ⟨fun hlt => ⟨⟨by omega, by omega, h.okm, by omega, by omega⟩, fun h1 => ⟨⟨ho, by omega, h.okm, by omega, by omega⟩, fun h2 => ?_, fun h2 => ?_⟩, fun h1 => ?_⟩, fun hge => ?_⟩⟩
  · have h3 := thr_le (m := w.m) (o := o.toNat) (q := q.toNat) hd hz
    have h4 := hd.h z (by omega)
    exact ⟨by omega, hlt, by omega, by omega, z + 1, by omega, by omega, by simp only [thr]; rw [if_pos ⟨h1, h2⟩], by omega⟩
  · exact ⟨by omega, z + 1, by omega, by omega, by simp only [thr]; rw [if_neg (fun h => h2 h.2)]; omega, by omega⟩
  · exact ⟨by omega, z + 1, by omega, by omega, by simp only [thr]; rw [if_neg (fun h => h1 h.1)]; omega, by omega⟩
  · have : z = w.j.n := by omega
    rw [this]
theorem atL_fuel {w : Nw} (h : okNet w) {o : Nat} {d : Nat → Int} {s : Int} : ∀ (F F' j : Nat), j ≤ F → j ≤ F' → j < w.j.n → atL w o d s F j = atL w o d s F' j
  | 0, 0, j, h1, h2, hj => rfl
  | 0, F' + 1, j, h1, h2, hj => by
    have : j = 0 := by omega
    subst this; simp [atL]
  | F + 1, 0, j, h1, h2, hj => by
    have : j = 0 := by omega
    subst this; simp [atL]
  | F + 1, F' + 1, j, h1, h2, hj => by
    simp only [atL]
    by_cases h0 : j = 0
    · simp [h0]
    · have hn := h.n
      have := h.okm (j - 1) (by omega)
      rw [if_neg h0, if_neg h0, atL_fuel h F F' _ (by omega) (by omega) (by omega)]
theorem atS_succ {w : Nw} (h : okNet w) {o : Nat} {d : Nat → Int} {s : Int} {j : Nat} (h0 : 0 < j) (hj : j < w.j.n) : atS w o d s j = govd (w.j.go j) (atS w o d s (w.m.fr (j - 1)).toNat - w.m.dr (j - 1) * thr w.m o (j - 1) d w.j.n) := by
  have hn := h.n
  have hf := h.okm (j - 1) (by omega)
  obtain ⟨i, rfl⟩ : ∃ i, j = i + 1 := ⟨j - 1, by omega⟩
  show atL w o d s (i + 1) (i + 1) = _
  simp only [atL]
  rw [if_neg (by omega)]
  unfold atS
  rw [atL_fuel h i _ (w.m.fr (i + 1 - 1)).toNat (by omega) (Nat.le_refl _) (by omega)]
theorem atS_zero {w : Nw} {o : Nat} {d : Nat → Int} {s : Int} : atS w o d s 0 = govd (w.j.go 0) s := rfl
theorem dropR_le {w : Nw} (h : okNet w) {o : Nat} {d : Nat → Int} (hd : dOK w.j.n d) {j : Nat} (h0 : 0 < j) (hj : j < w.j.n) : 0 ≤ w.m.dr (j - 1) * thr w.m o (j - 1) d w.j.n ∧ w.m.dr (j - 1) * thr w.m o (j - 1) d w.j.n ≤ 9000000000 := by
  have hn := h.n
  have hf := thr_le (m := w.m) (o := o) (q := j - 1) hd (Nat.le_refl _)
  have hd := (h.ms (j - 1) (by omega)).dr
  refine ⟨Int.mul_nonneg hd.1 hf.1, ?_⟩
  have := Int.mul_le_mul hd.2 (show thr w.m o (j - 1) d w.j.n ≤ 9000000 by omega) hf.1 (by omega : (0 : Int) ≤ 1000)
  omega
theorem atL_le {w : Nw} (h : okNet w) {o : Nat} {d : Nat → Int} {s : Int} (hd : dOK w.j.n d) (hs : 0 ≤ s ∧ s ≤ 1099511627776) : ∀ (F j : Nat), j < w.j.n → -(9000000000 * (F : Int)) ≤ atL w o d s F j ∧ atL w o d s F j ≤ 1099511627776
  | 0, j, hj => by
    have := gov_le (p := s) (h.js j hj).gov
    simp only [atL]
    omega
  | F + 1, j, hj => by
    have hn := h.n
    have hg := (h.js j hj).gov
    simp only [atL]
    by_cases h0 : j = 0
    · rw [if_pos h0]
      have := gov_le (p := s) hg
      omega
    · rw [if_neg h0]
      have hf := h.okm (j - 1) (by omega)
      have ih := atL_le h (o := o) hd hs F (w.m.fr (j - 1)).toNat (by omega)
      have hd := dropR_le h (o := o) hd (j := j) (by omega) hj
      have := gov_le (p := atL w o d s F (w.m.fr (j - 1)).toNat - w.m.dr (j - 1) * thr w.m o (j - 1) d w.j.n) hg
      omega
theorem atS_le {w : Nw} (h : okNet w) {o : Nat} {d : Nat → Int} {s : Int} (hd : dOK w.j.n d) (hs : 0 ≤ s ∧ s ≤ 1099511627776) {j : Nat} (hj : j < w.j.n) : -72000000000 ≤ atS w o d s j ∧ atS w o d s j ≤ 1099511627776 := by
  have := atL_le h (o := o) hd hs j j hj
  have hn := h.n
  unfold atS
  omega
theorem gov_two' {g p r : Int} (h : govd g p = r) : (¬ g = -1 → min p g = r) ∧ (g = -1 → p = r) := by
  unfold govd at h
  exact ⟨fun h1 => by rwa [if_neg h1] at h, fun h1 => by rwa [if_pos h1] at h⟩
theorem atR_true {M : Nat} {w : Nw} {o z : Int} {d : Nat → Int} {s : Int} (h : okNet w) (ho : 0 ≤ o ∧ o ≤ 1099511627776) (hz : 0 ≤ z ∧ z < w.j.n) (hd : dOK w.j.n d) (hs : 0 ≤ s ∧ s ≤ 1099511627776) (hM : z.toNat < M + 1) : atRG M w o z d s := by
  rw [atRG_vc]
  simp only [and_true, true_and, Nat.zero_lt_one, implies_true, Classical.not_not]
  have hn := h.n
  refine ⟨fun h0 => ?_, fun h0 => ?_⟩
  · have e : (z - 1).toNat = z.toNat - 1 := by omega
    rw [e]
    have hf := h.okm (z.toNat - 1) (by omega)
    have h1 := dropR_le h (o := o.toNat) hd (j := z.toNat) (by omega) (by omega)
    have h2 := atS_le h (o := o.toNat) hd hs (j := (w.m.fr (z.toNat - 1)).toNat) (by omega)
    exact ⟨by omega, by omega, by omega, rfl, ⟨h, ho, by omega, hd, hs, by omega⟩, by omega, rfl, ⟨h, ho, by omega, hd⟩, by omega, by omega, hz.1, hz.2, gov_two' (atS_succ h (by omega) (by omega)).symm⟩
  · have : z = 0 := by omega
    subst this
    exact ⟨hz.1, hz.2, gov_two' atS_zero.symm⟩
end Go.Proofs.Ytpannbkmpbioiaa

set_option linter.unusedVariables false
namespace Go.Proofs.Ytpannbkmpbioiaa
open Go Go.Lg
attribute [local irreducible] bodyH
end Go.Proofs.Ytpannbkmpbioiaa
