import Derived.Test.YtpannbkmpbioiaaQkQlQlV
set_option linter.unusedVariables false
set_option linter.unusedSimpArgs false
namespace Go.Proofs.Ytpannbkmpbioiaa
open Go Go.Lg
attribute [local irreducible] bodyH
theorem pw_succ (n : Nat) : pw (n + 1) = 2 * pw n := by unfold pw; rw [Nat.pow_succ]; omega
theorem pw_pos (n : Nat) : 0 < pw n := Nat.pow_pos (by omega)
theorem pw_mono {a b : Nat} (h : a ≤ b) : pw a ≤ pw b := Nat.pow_le_pow_right (by omega) h
theorem pw40 {n : Nat} (h : n ≤ 40) : pw n ≤ 1099511627776 := by
  have := pw_mono h
  have e : pw 40 = 1099511627776 := by decide
  omega
theorem pw8 {n : Nat} (h : n ≤ 8) : pw n ≤ 256 := by
  have := pw_mono h
  have e : pw 8 = 256 := by decide
  omega
theorem pow_true {n : Nat} (h : n ≤ 40) : powG n := by
  rw [powG_vc]
  simp only [and_true, true_and]
  refine ⟨⟨0, by omega, rfl, rfl⟩, fun z hz => ⟨fun hlt => ?_, fun hge => ?_⟩⟩
  · have h1 := pw40 (n := z) (by omega)
    have h2 := pw_succ z
    exact ⟨by omega, by omega, z + 1, by omega, by omega, by omega, by omega⟩
  · have : z = n := by omega
    rw [this]
theorem has_true {o n : Int} (ho : 0 ≤ o ∧ o ≤ 1099511627776) (hn : 0 ≤ n ∧ n ≤ 40) : hasG o n := by
  rw [hasG_vc]
  simp only [and_true]
  have hp := pw_pos n.toNat
  have e : o.tdiv (pw n.toNat) = ((o.toNat / pw n.toNat : Nat) : Int) := by
    conv => lhs; rw [show o = ((o.toNat : Nat) : Int) by omega]
    exact (Int.ofNat_tdiv _ _).symm
  have e2 : (((o.toNat / pw n.toNat : Nat) : Int)).tmod 2 = ((o.toNat / pw n.toNat % 2 : Nat) : Int) := (Int.ofNat_tmod _ 2).symm
  rw [e, e2]
  have hd := Nat.div_le_self o.toNat (pw n.toNat)
  have hh : hs o.toNat n.toNat = (o.toNat / pw n.toNat % 2 = 1) := rfl
  rw [hh]
  clear e e2 hh
  generalize o.toNat / pw n.toNat = y at hd ⊢
  exact ⟨hn, fun h => by omega, by omega, fun h => by omega, by omega⟩
theorem may_true {w : Nw} {o : Int} (ho : 0 ≤ o ∧ o ≤ 1099511627776) (hn : w.m.n ≤ 40) : mayG w o := by
  rw [mayG_vc]
  simp only [and_true, true_and, Nat.zero_lt_one, implies_true, Classical.not_not, Int.toNat_natCast, Bool.false_eq_true, false_iff, true_iff]
  refine ⟨⟨0, ⟨by omega, fun k hk => by omega⟩, rfl⟩, fun z hz => ⟨fun hlt => ?_, fun hge => ?_⟩⟩
  · have hz' : z < w.m.n := by omega
    have nxt : mayK w.m o.toNat z → (-9223372036854775808 ≤ (z : Int) + 1 ∧ (z : Int) + 1 ≤ 9223372036854775807) ∧ ∃ z1, (z1 ≤ w.m.n ∧ ∀ k, k < z1 → mayK w.m o.toNat k) ∧ w.m.n - z1 < w.m.n - z ∧ (z : Int) + 1 = (z1 : Int) := fun h => ⟨by omega, z + 1, ⟨by omega, to_succ hz.2 h⟩, by omega, by omega⟩
    refine ⟨by omega, hlt, fun h1 => ⟨⟨ho, by omega, by omega⟩, fun h2 h => (h.h z hz').1 ⟨h1, h2⟩, fun h2 => ⟨by omega, hlt, fun h3 => ⟨⟨ho, by omega, by omega⟩, fun h4 h => (h.h z hz').2 ⟨h3, h4⟩, fun h4 => nxt ⟨fun h => h.2 h2, fun h => h4 h.2⟩⟩, fun h3 => nxt ⟨fun h => h.2 h2, fun h => h3 h.1⟩⟩⟩,
      fun h1 => ⟨by omega, hlt, fun h3 => ⟨⟨ho, by omega, by omega⟩, fun h4 h => (h.h z hz').2 ⟨h3, h4⟩, fun h4 => nxt ⟨fun h => h1 h.1, fun h => h4 h.2⟩⟩, fun h3 => nxt ⟨fun h => h1 h.1, fun h => h3 h.1⟩⟩⟩
  · have e : z = w.m.n := by omega
    subst e
    exact ⟨hz.2⟩
theorem up_shift (m : Mn) (j : Nat) : ∀ i, up m j (i + 1) = up m (m.fr (j - 1)).toNat i
  | 0 => rfl
  | i + 1 => by
    show (m.fr (up m j (i + 1) - 1)).toNat = _
    rw [up_shift m j i]; rfl
theorem dpt_fuel {m : Mn} (hm : okM m) : ∀ (F F' j : Nat), j ≤ F → j ≤ F' → j ≤ m.n → dpt m F j = dpt m F' j
  | 0, 0, j, h, h', hj => rfl
  | 0, F' + 1, j, h, h', hj => by
    have : j = 0 := by omega
    subst this; simp [dpt]
  | F + 1, 0, j, h, h', hj => by
    have : j = 0 := by omega
    subst this; simp [dpt]
  | F + 1, F' + 1, j, h, h', hj => by
    simp only [dpt]
    by_cases h0 : j = 0
    · simp [h0]
    · have := hm (j - 1) (by omega)
      rw [if_neg h0, if_neg h0, dpt_fuel hm F F' _ (by omega) (by omega) (by omega)]
theorem dpt_succ {m : Mn} (hm : okM m) {j : Nat} (h0 : 0 < j) (hj : j ≤ m.n) : dpt m j j = 1 + dpt m (m.fr (j - 1)).toNat (m.fr (j - 1)).toNat := by
  have hf := hm (j - 1) (by omega)
  obtain ⟨i, rfl⟩ : ∃ i, j = i + 1 := ⟨j - 1, by omega⟩
  simp only [dpt]
  rw [if_neg (by omega), dpt_fuel hm i (m.fr (i + 1 - 1)).toNat _ (by omega) (Nat.le_refl _) (by omega)]
theorem dpt_zero (m : Mn) : dpt m 0 0 = 0 := rfl
theorem on_zero (m : Mn) (o : Nat) : onW m o 0 := fun i hi => by rw [dpt_zero] at hi; omega
theorem on_succ {m : Mn} (hm : okM m) (o : Nat) {j : Nat} (h0 : 0 < j) (hj : j ≤ m.n) : onW m o j ↔ hs o (j - 1) ∧ onW m o (m.fr (j - 1)).toNat := by
  unfold onW
  rw [dpt_succ hm h0 hj]
  constructor
  · intro h
    refine ⟨h 0 (by omega), fun i hi => ?_⟩
    have := h (i + 1) (by omega)
    rwa [up_shift] at this
  · rintro ⟨h1, h2⟩ i hi
    cases i with
    | zero => exact h1
    | succ i => rw [up_shift]; exact h2 i (by omega)
theorem beh_zero (m : Mn) (q : Nat) : ¬ behW m q 0 := fun ⟨i, hi, _⟩ => by rw [dpt_zero] at hi; omega
theorem beh_succ {m : Mn} (hm : okM m) (q : Nat) {j : Nat} (h0 : 0 < j) (hj : j ≤ m.n) : behW m q j ↔ j = q + 1 ∨ behW m q (m.fr (j - 1)).toNat := by
  unfold behW
  rw [dpt_succ hm h0 hj]
  constructor
  · rintro ⟨i, hi, h⟩
    cases i with
    | zero => exact .inl h
    | succ i => exact .inr ⟨i, by omega, by rw [← up_shift]; exact h⟩
  · rintro (h | ⟨i, hi, h⟩)
    · exact ⟨0, by omega, h⟩
    · exact ⟨i + 1, by omega, by rw [up_shift]; exact h⟩
theorem is_true {M : Nat} {w : Nw} {o z : Int} (ho : 0 ≤ o ∧ o ≤ 1099511627776) (hn : w.m.n ≤ 40) (hm : okM w.m) (hz : 0 ≤ z ∧ z ≤ w.m.n) (hM : z.toNat < M + 1) : isG M w o z := by
  rw [isG_vc]
  simp only [and_true, true_and, Nat.zero_lt_one, implies_true, Bool.false_eq_true, false_iff, true_iff]
  refine ⟨fun h => by subst h; exact on_zero _ _, fun h => ?_⟩
  have e : (z - 1).toNat = z.toNat - 1 := by omega
  rw [e]
  have hf := hm (z.toNat - 1) (by omega)
  have hs := on_succ hm o.toNat (j := z.toNat) (by omega) (by omega)
  exact ⟨by omega, by omega, fun h1 => ⟨by omega, by omega, by omega, ⟨ho, hn, hm, by omega, by omega⟩, by rw [hs]; exact ⟨fun h => ⟨h1, h⟩, fun h => h.2⟩⟩, fun h1 h => h1 (hs.1 h).1⟩
theorem beh_true {M : Nat} {w : Nw} {q z : Int} (hq : 0 ≤ q ∧ q ≤ 40) (hn : w.m.n ≤ 40) (hm : okM w.m) (hz : 0 ≤ z ∧ z ≤ w.m.n) (hM : z.toNat < M + 1) : behG M w q z := by
  rw [behG_vc]
  simp only [and_true, true_and, Nat.zero_lt_one, implies_true, Bool.false_eq_true, false_iff, true_iff]
  refine ⟨by omega, fun h => ?_, fun h => ⟨fun h0 => ?_, fun h0 => ?_⟩⟩
  · rw [beh_succ hm _ (by omega) (by omega)]; left; omega
  · have e : (z - 1).toNat = z.toNat - 1 := by omega
    rw [e]
    have hf := hm (z.toNat - 1) (by omega)
    refine ⟨by omega, by omega, by omega, ⟨hq, hn, hm, by omega, by omega⟩, ?_⟩
    rw [beh_succ hm _ (j := z.toNat) (by omega) (by omega)]
    exact ⟨.inr, fun h1 => h1.resolve_left (by omega)⟩
  · have : z = 0 := by omega
    subst this; exact beh_zero _ _
theorem thr_le {m : Mn} {o q : Nat} {n : Nat} {d : Nat → Int} (hd : dOK n d) : ∀ {J : Nat}, J ≤ n → 0 ≤ thr m o q d J ∧ thr m o q d J ≤ 1000000 * (J : Int)
  | 0, _ => by simp [thr]
  | J + 1, h => by
    have ih := thr_le (m := m) (o := o) (q := q) hd (J := J) (by omega)
    have h1 := hd.h J (by omega)
    simp only [thr]
    split <;> omega
theorem thr_true {w : Nw} {o q : Int} {d : Nat → Int} (h : okNet w) (ho : 0 ≤ o ∧ o ≤ 1099511627776) (hq : 0 ≤ q ∧ q < w.m.n) (hd : dOK w.j.n d) : thrG w o q d := by
  rw [thrG_vc]
  simp only [and_true, true_and, Nat.zero_lt_one, implies_true, Int.toNat_natCast]
  have hn := h.n
  refine ⟨⟨0, by omega, rfl, rfl⟩, fun z hz => ⟨fun hlt => ⟨⟨by omega, by omega, h.okm, by omega, by omega⟩, fun h1 => ⟨⟨ho, by omega, h.okm, by omega, by omega⟩, fun h2 => ?_, fun h2 => ?_⟩, fun h1 => ?_⟩, fun hge => ?_⟩⟩
  · have h3 := thr_le (m := w.m) (o := o.toNat) (q := q.toNat) hd hz
    have h4 := hd.h z (by omega)
    exact ⟨by omega, hlt, by omega, by omega, z + 1, by omega, by omega, by simp only [thr]; rw [if_pos ⟨h1, h2⟩], by omega⟩
  · exact ⟨by omega, z + 1, by omega, by omega, by simp only [thr]; rw [if_neg (fun h => h2 h.2)]; omega, by omega⟩
  · exact ⟨by omega, z + 1, by omega, by omega, by simp only [thr]; rw [if_neg (fun h => h1 h.1)]; omega, by omega⟩
  · have : z = w.j.n := by omega
    rw [this]
theorem atL_fuel {w : Nw} (h : okNet w) {o : Nat} {d : Nat → Int} {s : Int} : ∀ (F F' j : Nat), j ≤ F → j ≤ F' → j < w.j.n → atL w o d s F j = atL w o d s F' j
  | 0, 0, j, h1, h2, hj => rfl
  | 0, F' + 1, j, h1, h2, hj => by
    have : j = 0 := by omega
    subst this; simp [atL]
  | F + 1, 0, j, h1, h2, hj => by
    have : j = 0 := by omega
    subst this; simp [atL]
  | F + 1, F' + 1, j, h1, h2, hj => by
    simp only [atL]
    by_cases h0 : j = 0
    · simp [h0]
    · have hn := h.n
      have := h.okm (j - 1) (by omega)
      rw [if_neg h0, if_neg h0, atL_fuel h F F' _ (by omega) (by omega) (by omega)]
theorem atS_succ {w : Nw} (h : okNet w) {o : Nat} {d : Nat → Int} {s : Int} {j : Nat} (h0 : 0 < j) (hj : j < w.j.n) : atS w o d s j = govd (w.j.go j) (atS w o d s (w.m.fr (j - 1)).toNat - w.m.dr (j - 1) * thr w.m o (j - 1) d w.j.n) := by
  have hn := h.n
  have hf := h.okm (j - 1) (by omega)
  obtain ⟨i, rfl⟩ : ∃ i, j = i + 1 := ⟨j - 1, by omega⟩
  show atL w o d s (i + 1) (i + 1) = _
  simp only [atL]
  rw [if_neg (by omega)]
  unfold atS
  rw [atL_fuel h i _ (w.m.fr (i + 1 - 1)).toNat (by omega) (Nat.le_refl _) (by omega)]
theorem atS_zero {w : Nw} {o : Nat} {d : Nat → Int} {s : Int} : atS w o d s 0 = govd (w.j.go 0) s := rfl
theorem dropR_le {w : Nw} (h : okNet w) {o : Nat} {d : Nat → Int} (hd : dOK w.j.n d) {j : Nat} (h0 : 0 < j) (hj : j < w.j.n) : 0 ≤ w.m.dr (j - 1) * thr w.m o (j - 1) d w.j.n ∧ w.m.dr (j - 1) * thr w.m o (j - 1) d w.j.n ≤ 9000000000 := by
  have hn := h.n
  have hf := thr_le (m := w.m) (o := o) (q := j - 1) hd (Nat.le_refl _)
  have hd := (h.ms (j - 1) (by omega)).dr
  refine ⟨Int.mul_nonneg hd.1 hf.1, ?_⟩
  have := Int.mul_le_mul hd.2 (show thr w.m o (j - 1) d w.j.n ≤ 9000000 by omega) hf.1 (by omega : (0 : Int) ≤ 1000)
  omega
theorem atL_le {w : Nw} (h : okNet w) {o : Nat} {d : Nat → Int} {s : Int} (hd : dOK w.j.n d) (hs : 0 ≤ s ∧ s ≤ 1099511627776) : ∀ (F j : Nat), j < w.j.n → -(9000000000 * (F : Int)) ≤ atL w o d s F j ∧ atL w o d s F j ≤ 1099511627776
  | 0, j, hj => by
    have := gov_le (p := s) (h.js j hj).gov
    simp only [atL]
    omega
  | F + 1, j, hj => by
    have hn := h.n
    have hg := (h.js j hj).gov
    simp only [atL]
    by_cases h0 : j = 0
    · rw [if_pos h0]
      have := gov_le (p := s) hg
      omega
    · rw [if_neg h0]
      have hf := h.okm (j - 1) (by omega)
      have ih := atL_le h (o := o) hd hs F (w.m.fr (j - 1)).toNat (by omega)
      have hd := dropR_le h (o := o) hd (j := j) (by omega) hj
      have := gov_le (p := atL w o d s F (w.m.fr (j - 1)).toNat - w.m.dr (j - 1) * thr w.m o (j - 1) d w.j.n) hg
      omega
theorem atS_le {w : Nw} (h : okNet w) {o : Nat} {d : Nat → Int} {s : Int} (hd : dOK w.j.n d) (hs : 0 ≤ s ∧ s ≤ 1099511627776) {j : Nat} (hj : j < w.j.n) : -72000000000 ≤ atS w o d s j ∧ atS w o d s j ≤ 1099511627776 := by
  have := atL_le h (o := o) hd hs j j hj
  have hn := h.n
  unfold atS
  omega
theorem gov_two' {g p r : Int} (h : govd g p = r) : (¬ g = -1 → min p g = r) ∧ (g = -1 → p = r) := by
  unfold govd at h
  exact ⟨fun h1 => by rwa [if_neg h1] at h, fun h1 => by rwa [if_pos h1] at h⟩
theorem atR_true {M : Nat} {w : Nw} {o z : Int} {d : Nat → Int} {s : Int} (h : okNet w) (ho : 0 ≤ o ∧ o ≤ 1099511627776) (hz : 0 ≤ z ∧ z < w.j.n) (hd : dOK w.j.n d) (hs : 0 ≤ s ∧ s ≤ 1099511627776) (hM : z.toNat < M + 1) : atRG M w o z d s := by
  rw [atRG_vc]
  simp only [and_true, true_and, Nat.zero_lt_one, implies_true, Classical.not_not]
  have hn := h.n
  refine ⟨fun h0 => ?_, fun h0 => ?_⟩
  · have e : (z - 1).toNat = z.toNat - 1 := by omega
    rw [e]
    have hf := h.okm (z.toNat - 1) (by omega)
    have h1 := dropR_le h (o := o.toNat) hd (j := z.toNat) (by omega) (by omega)
    have h2 := atS_le h (o := o.toNat) hd hs (j := (w.m.fr (z.toNat - 1)).toNat) (by omega)
    exact ⟨by omega, by omega, by omega, rfl, ⟨h, ho, by omega, hd, hs, by omega⟩, by omega, rfl, ⟨h, ho, by omega, hd⟩, by omega, by omega, hz.1, hz.2, gov_two' (atS_succ h (by omega) (by omega)).symm⟩
  · have : z = 0 := by omega
    subst this
    exact ⟨hz.1, hz.2, gov_two' atS_zero.symm⟩
end Go.Proofs.Ytpannbkmpbioiaa

namespace Go.Proofs.Ytpannbkmpbioiaa
open Go Go.Lg
attribute [local irreducible] bodyH
theorem fnd_succ {w : Nw} {j o : Nat} : fndR w j (o + 1) ↔ fndR w j o ∨ onA w j o := by
  constructor
  · rintro ⟨q, hq, h⟩
    rcases Nat.lt_succ_iff_lt_or_eq.1 hq with h' | rfl
    · exact .inl ⟨q, h', h⟩
    · exact .inr h
  · rintro (⟨q, hq, h⟩ | h)
    · exact ⟨q, by omega, h⟩
    · exact ⟨o, by omega, h⟩
theorem fnd_zero {w : Nw} {j : Nat} : ¬ fndR w j 0 := fun ⟨q, hq, _⟩ => by omega
theorem lo_off {w : Nw} {j o : Nat} (h : ¬ onA w j o) : loR w j (o + 1) = loR w j o ∧ upR w j (o + 1) = upR w j o := by simp [loR, upR, h]
theorem lo_on {w : Nw} {j o : Nat} (h : onA w j o) (hf : fndR w j o) : loR w j (o + 1) = min (loR w j o) (lwR w j o) ∧ upR w j (o + 1) = max (upR w j o) (hgR w j o) := by simp [loR, upR, h, hf]
theorem lo_first {w : Nw} {j o : Nat} (h : onA w j o) (hf : ¬ fndR w j o) : loR w j (o + 1) = lwR w j o ∧ upR w j (o + 1) = hgR w j o := by simp [loR, upR, h, hf]
theorem need_dOK {w : Nw} (h : okNet w) : dOK w.j.n w.j.nl ∧ dOK w.j.n w.j.nh := ⟨⟨fun i hi => by have := (h.js i hi).need; omega⟩, ⟨fun i hi => by have := (h.js i hi).need; omega⟩⟩
theorem prsR_true {w : Nw} {z : Int} (h : okNet w) (hz : 0 ≤ z ∧ z < w.j.n) : prsRG w z := by
  rw [prsRG_vc]
  simp only [and_true, true_and, Nat.zero_lt_one, implies_true, Classical.not_not, Int.toNat_natCast, Bool.false_eq_true, false_iff, true_iff, Nat.add_zero, Nat.zero_add, Nat.le_refl]
  have hn := h.n
  have hp := pw8 (n := w.m.n) (by omega)
  have hs := h.src
  obtain ⟨d1, d2⟩ := need_dOK h
  refine ⟨⟨fun h0 => ⟨by omega, h0, by omega, by omega, by omega, h0, by omega, by omega, by omega, 1, by omega, by omega, rfl, rfl, by omega, rfl, fun i hi => ?_, rfl, fun i hi => ?_⟩, fun h0 => by omega⟩, fun y hy => ⟨fun hlt => ⟨by omega, hlt, by omega, by omega, by omega, hlt, by omega, by omega, by omega, y + 1, by omega, by omega, rfl, rfl, by omega, rfl, fun i hi => ?_, rfl, fun i hi => ?_⟩, fun hge => ?_⟩⟩
  · have : i = 0 := by omega
    subst this; rfl
  · have : i = 0 := by omega
    subst this; rfl
  · split
    · rfl
    · have : i = y := by omega
      rw [this]
  · split
    · rfl
    · have : i = y := by omega
      rw [this]
  · have e : y = w.j.n := by omega
    subst e
    refine ⟨⟨0, by omega, rfl, rfl, fnd_zero, rfl, rfl, rfl, rfl, rfl⟩, fun o ho => ⟨by omega, fun hlt => ⟨⟨by omega, by omega⟩, fun h1 => ?_, fun h1 => ⟨⟨by omega, by omega, h.okm, by omega, by omega⟩, fun h2 => ?_, fun h2 => ⟨rfl, ⟨h, by omega, hz, d2, by omega, by omega⟩, rfl, ⟨h, by omega, hz, d1, by omega, by omega⟩, fun h3 => ?_, fun h3 => ?_⟩⟩⟩, fun hge => ?_⟩⟩
    · have ha : ¬ onA w z.toNat o := fun h => h1 h.may
      obtain ⟨l1, l2⟩ := lo_off ha
      exact ⟨by omega, o + 1, by omega, by omega, by rw [fnd_succ]; exact ⟨.inl, fun h => h.resolve_right ha⟩, by omega, l1.symm, l2.symm⟩
    · have ha : ¬ onA w z.toNat o := fun h => h2 h.on
      obtain ⟨l1, l2⟩ := lo_off ha
      exact ⟨by omega, o + 1, by omega, by omega, by rw [fnd_succ]; exact ⟨.inl, fun h => h.resolve_right ha⟩, by omega, l1.symm, l2.symm⟩
    · have ha : onA w z.toNat o := ⟨h1, h2⟩
      obtain ⟨l1, l2⟩ := lo_first ha h3
      exact ⟨by omega, o + 1, by omega, by omega, fnd_succ.2 (.inr ha), by omega, by rw [l1, Int.min_self]; rfl, by rw [l2, Int.max_self]; rfl⟩
    · have ha : onA w z.toNat o := ⟨h1, h2⟩
      obtain ⟨l1, l2⟩ := lo_on ha h3
      exact ⟨by omega, o + 1, by omega, by omega, fnd_succ.2 (.inr ha), by omega, by rw [l1]; rfl, by rw [l2]; rfl⟩
    · have : o = pw w.m.n := by omega
      subst this
      exact ⟨rfl, rfl, Iff.rfl⟩
theorem fsR_all {w : Nw} : ∀ {i : Nat}, (∀ j, j < i → ¬ badR w j) → fstR w i = i
  | 0, _ => rfl
  | i + 1, h => by
    have := fsR_all (i := i) fun j hj => h j (by omega)
    simp only [fstR, this, Nat.lt_irrefl, if_false, h i (by omega)]
theorem fsR_at {w : Nw} {h : Nat} (ha : ∀ j, j < h → ¬ badR w j) (hb : badR w h) : ∀ {i : Nat}, h < i → fstR w i = h
  | 0, hi => by omega
  | i + 1, hi => by
    rcases Nat.lt_or_ge h i with h' | h'
    · have := fsR_at ha hb h'
      simp only [fstR, this, h', if_true]
    · have e : h = i := by omega
      subst e
      simp only [fstR, fsR_all ha, Nat.lt_irrefl, if_false, hb, if_true]
theorem fltR_at {w : Nw} (hw : okNet w) {z : Nat} (ha : ∀ j, j < z → ¬ badR w j) (hb : badR w z) (hz : z < w.j.n) : (z : Int) = FtJR w ∧ (loR w z (pw w.m.n) < w.j.le z ↔ FtLR w) ∧ 0 = FtER w := by
  have e := fsR_at ha hb hz
  have hi : ftIR w := ⟨by rw [e]; exact hz⟩
  have he : FtER w = 0 := by simp [FtER, hw, hi]
  refine ⟨by simp [FtJR, he, e], ⟨fun h => ⟨he, by rw [e]; exact h⟩, fun h => by have := h.h; rwa [e] at this⟩, he.symm⟩
theorem FltR_true (w : Nw) : FltRG w := by
  rw [FltRG_vc]
  simp only [and_true, true_and, Nat.zero_lt_one, implies_true, Classical.not_not, Int.toNat_natCast, Bool.false_eq_true, false_iff]
  refine ⟨fun h => ?_, fun h => ?_⟩
  · have e : FtER w = 1 := by simp [FtER, h]
    exact ⟨by simp [FtJR, e], fun h => by have := h.e; omega, e.symm⟩
  have hn := h.n
  refine ⟨⟨0, ⟨by omega, fun k hk => by omega⟩, rfl⟩, fun z hz => ⟨fun hlt => ⟨⟨h, by omega, hlt⟩, by omega, hlt, fun h1 => ⟨fun h2 => fltR_at h hz.2 ⟨h1, .inl h2⟩ (by omega), fun h2 => ⟨fun h3 => fltR_at h hz.2 ⟨h1, .inr h3⟩ (by omega), fun h3 => ⟨by omega, z + 1, ⟨by omega, to_succ hz.2 fun hb => ?_⟩, by omega, by omega⟩⟩⟩, fun h1 => ⟨by omega, z + 1, ⟨by omega, to_succ hz.2 fun hb => h1 hb.f⟩, by omega, by omega⟩⟩, fun hge => ?_⟩⟩
  · rcases hb.out with h4 | h4
    · exact h2 h4
    · exact h3 h4
  · have e : z = w.j.n := by omega
    subst e
    have e := fsR_all hz.2
    have hi : ¬ ftIR w := fun h => by have := h.h; omega
    have he : FtER w = 4 := by simp [FtER, h, hi]
    exact ⟨by simp [FtJR, he], fun h => by have := h.e; omega, he.symm⟩
end Go.Proofs.Ytpannbkmpbioiaa
