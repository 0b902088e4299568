import Derived.Test.YtoeolgeidpjgbaaVoVp
set_option linter.unusedVariables false
namespace Go.Proofs.Ytoeolgeidpjgbaa
open Go Go.Lg
/-! what is true of volumes -/
theorem sI_mono {n : Nat} {A R : Nat → Int} (hv : vL n A R) {i : Nat} : ∀ {j : Nat}, i ≤ j → j ≤ n → sI R i ≤ sI R j
  | 0, h, _ => by have : i = 0 := by omega
                  subst this; exact Int.le_refl _
  | j + 1, h, hn => by
    rcases Nat.lt_or_ge j i with h' | h'
    · have : i = j + 1 := by omega
      subst this; exact Int.le_refl _
    · have := sI_mono hv h' (by omega : j ≤ n)
      have := (hv.2 j (by omega)).2
      simp only [sI]; omega
theorem hI_eq {n : Nat} {A R : Nat → Int} (hv : vL n A R) {h : Int} (h0 : 0 ≤ h) : ∀ i, i ≤ n → hI R h i = max 0 (h - sI R i)
  | 0, _ => by simp [hI, sI]; omega
  | i + 1, hi => by
    have := hI_eq hv h0 i (by omega)
    have := (hv.2 i (by omega)).2
    simp only [hI, sI]; omega
theorem vI_mono {n : Nat} {A R : Nat → Int} (hv : vL n A R) {h h' : Int} (h0 : 0 ≤ h) (hh : h ≤ h') : ∀ i, i ≤ n → vI A R h i ≤ vI A R h' i
  | 0, _ => Int.le_refl _
  | i + 1, hi => by
    have h1 := vI_mono hv h0 hh i (by omega)
    have e1 := hI_eq hv h0 i (by omega)
    have e2 := hI_eq hv (by omega : 0 ≤ h') i (by omega)
    have ha := (hv.2 i (by omega)).1
    have := Int.mul_le_mul_of_nonneg_left (c := A i) (a := min (hI R h i) (R i)) (b := min (hI R h' i) (R i)) (by omega) (by omega)
    simp only [vI]; omega
theorem vI_up {n : Nat} {A R : Nat → Int} (hv : vL n A R) {h : Int} (h0 : 0 ≤ h) : ∀ i, i ≤ n → (h < sI R i → ∃ j, j < i ∧ vI A R (h + 1) i - vI A R h i = A j) ∧ (sI R i ≤ h → vI A R (h + 1) i = vI A R h i)
  | 0, _ => ⟨fun h' => by simp [sI] at h'; omega, fun _ => rfl⟩
  | i + 1, hi => by
    obtain ⟨p1, p2⟩ := vI_up hv h0 i (by omega)
    have e1 := hI_eq hv h0 i (by omega)
    have e2 := hI_eq hv (by omega : 0 ≤ h + 1) i (by omega)
    obtain ⟨ha, hr⟩ := hv.2 i (by omega)
    simp only [vI, sI]
    rcases Int.lt_or_le h (sI R i) with hc | hc
    · refine ⟨fun _ => ?_, fun hh => by omega⟩
      obtain ⟨j, hj, ej⟩ := p1 hc
      have m1 : min (hI R h i) (R i) = 0 := by omega
      have m2 : min (hI R (h + 1) i) (R i) = 0 := by omega
      exact ⟨j, by omega, by rw [m1, m2]; simpa using ej⟩
    · have := p2 hc
      refine ⟨fun hh => ⟨i, by omega, ?_⟩, fun hh => ?_⟩
      · have m1 : min (hI R (h + 1) i) (R i) = min (hI R h i) (R i) + 1 := by omega
        rw [m1, Int.mul_add]; omega
      · have m1 : min (hI R (h + 1) i) (R i) = min (hI R h i) (R i) := by omega
        rw [m1]; omega
theorem vI_top {n : Nat} {A R : Nat → Int} (hv : vL n A R) {m : Nat} (hm : m ≤ n) : ∀ i, i ≤ n → vI A R (sI R m) i = gI A R (min i m)
  | 0, _ => by simp [vI, gI]
  | i + 1, hi => by
    have ih := vI_top hv hm i (by omega)
    have s0 := (sI_le hv m hm).1
    have e1 := hI_eq hv s0 i (by omega)
    obtain ⟨ha, hr⟩ := hv.2 i (by omega)
    simp only [vI]
    rcases Nat.lt_or_ge i m with hc | hc
    · have := sI_mono hv (by omega : i + 1 ≤ m) hm
      simp only [sI] at this
      have m1 : min (hI R (sI R m) i) (R i) = R i := by omega
      have m2 : min (i + 1) m = i + 1 := by omega
      have m3 : min i m = i := by omega
      rw [m1, m2, ih, m3]; rfl
    · have := sI_mono hv hc (by omega : i ≤ n)
      have m1 : min (hI R (sI R m) i) (R i) = 0 := by omega
      have m2 : min (i + 1) m = m := by omega
      have m3 : min i m = m := by omega
      rw [m1, m2, ih, m3]; simp
/-! dividing -/
theorem fl {z w : Int} (hz : 0 ≤ z) (hw : 1 ≤ w) : z.tdiv w * w ≤ z ∧ z < (z.tdiv w + 1) * w ∧ 0 ≤ z.tdiv w := by
  rw [Int.tdiv_eq_ediv_of_nonneg hz]
  exact ⟨Int.ediv_mul_le z (by omega), Int.lt_ediv_add_one_mul_self z (by omega), Int.ediv_nonneg hz (by omega)⟩
theorem ce {z w : Int} (hz : 0 ≤ z) (hw : 1 ≤ w) : z ≤ (z + w - 1).tdiv w * w ∧ ((z + w - 1).tdiv w - 1) * w < z ∧ 0 ≤ (z + w - 1).tdiv w := by
  obtain ⟨h1, h2, h3⟩ := fl (z := z + w - 1) (w := w) (by omega) hw
  rw [Int.add_mul] at h2
  rw [Int.sub_mul]
  omega
/-- what is divided by less and is more -/
theorem fl_mono {z z' w w' : Int} (hz : 0 ≤ z) (hzz : z ≤ z') (hw : 1 ≤ w) (hww : w ≤ w') : z.tdiv w' ≤ z'.tdiv w := by
  obtain ⟨h1, _, h3⟩ := fl hz (by omega : 1 ≤ w')
  rw [Int.tdiv_eq_ediv_of_nonneg (by omega : 0 ≤ z')]
  refine (Int.le_ediv_iff_mul_le (by omega)).2 ?_
  have := Int.mul_le_mul_of_nonneg_left (c := z.tdiv w') hww h3
  omega
theorem ce_mono {z z' w w' : Int} (hz : 0 ≤ z) (hzz : z ≤ z') (hw : 1 ≤ w) (hww : w ≤ w') : (z + w' - 1).tdiv w' ≤ (z' + w - 1).tdiv w := by
  obtain ⟨_, h1, _⟩ := ce hz (by omega : 1 ≤ w')
  obtain ⟨h2, _, h3⟩ := ce (by omega : 0 ≤ z') hw
  have h4 := Int.mul_le_mul_of_nonneg_left (c := (z' + w - 1).tdiv w) hww h3
  have h5 : ((z + w' - 1).tdiv w' - 1) * w' < (z' + w - 1).tdiv w * w' := by omega
  have := Int.lt_of_mul_lt_mul_right h5 (by omega)
  omega
theorem fl_ce {z w : Int} (hz : 0 ≤ z) (hw : 1 ≤ w) : (z + w - 1).tdiv w - z.tdiv w ≤ 1 ∧ z.tdiv w ≤ (z + w - 1).tdiv w := by
  obtain ⟨h1, h2, h3⟩ := fl hz hw
  obtain ⟨g1, g2, g3⟩ := ce hz hw
  have := Int.lt_of_mul_lt_mul_right (by omega : ((z + w - 1).tdiv w - 1) * w < (z.tdiv w + 1) * w) (by omega)
  refine ⟨by omega, ?_⟩
  have := Int.le_of_mul_le_mul_right (by omega : z.tdiv w * w ≤ (z + w - 1).tdiv w * w) (by omega)
  exact this
end Go.Proofs.Ytoeolgeidpjgbaa

set_option linter.unusedVariables false
namespace Go.Proofs.Ytoeolgeidpjgbaa
open Go Go.Lg
attribute [local irreducible] funS
theorem gI_le {n : Nat} {A R : Nat → Int} (hv : vL n A R) : ∀ i, i ≤ n → 0 ≤ gI A R i ∧ gI A R i ≤ 10000000 * (i : Int)
  | 0, _ => by simp [gI]
  | i + 1, h => by
    have := gI_le hv i (by omega)
    obtain ⟨⟨a1, a2⟩, r1, r2⟩ := hv.2 i (by omega)
    have := mulBound a1 a2 (m := R i) (by omega) (by omega)
    simp only [gI]
    push_cast
    omega
theorem volV_in {n : Nat} {A R : Nat → Int} {h : Int} (hv : vL n A R) (h0 : 0 ≤ h) (h1 : h ≤ sI R n) : volV n A R h = vI A R h n ∧ volE n A R h = 0 := by
  simp [volV, volE, hv, h0, h1]
theorem volE_out {n : Nat} {A R : Nat → Int} {h : Int} (hv : vL n A R) (h1 : ¬ (0 ≤ h ∧ h ≤ sI R n)) : volE n A R h = 2 := by
  simp [volE, hv, h1]
theorem fin_true {n : Nat} {A R : Nat → Int} (hv : vL n A R) {a e : Int} (he : e = 0 ↔ a < sI R n) : fin' n A R a e := by
  unfold fin' back
  simp only [LQ_eq, pre_eq, and_true, true_and, Int.toNat_natCast, implies_true, Int.toNat_zero, c0, lit1]
  refine ⟨⟨Nat.zero_le _, rfl, rfl⟩, fun z hz => ⟨fun hlt => ?_, fun hge => ?_⟩⟩
  · have hz : z ≤ n := hz
    have e1 : ((z : Int) + 1).toNat = z + 1 := by omega
    obtain ⟨⟨a1, a2⟩, r1, r2⟩ := hv.2 z (by omega)
    have hm := mulBound a1 a2 (m := R z) (by omega) (by omega)
    have hg := gI_le hv z hz
    have hs := sI_le hv z hz
    have hn := hv.1
    have st : sI R z + R z = sI R (z + 1) := rfl
    have gt : gI A R z + A z * R z = gI A R (z + 1) := rfl
    have s1 := sI_mono hv (by omega : z + 1 ≤ n) (Nat.le_refl n)
    have s0 := (sI_le hv (z + 1) (by omega)).1
    obtain ⟨v1, v2⟩ := volV_in hv s0 s1
    have v3 := vI_top hv (by omega : z + 1 ≤ n) n (Nat.le_refl n)
    rw [show min n (z + 1) = z + 1 by omega] at v3
    rw [e1, st, gt, v1, v2, v3]
    simp only [i64]
    refine ⟨by omega, hlt, by omega, by omega, by omega, fun h => absurd trivial h, fun _ => ⟨fun h => absurd trivial h, fun _ => ⟨by omega, (show z + 1 ≤ n by omega), by omega, trivial, trivial, by omega⟩⟩⟩
  · have hz : z ≤ n := hz
    have : z = n := by omega
    subst this
    exact fun h => absurd he h
theorem loop1_true {n : Nat} {A R : Nat → Int} {a v up e : Int} (hb : i64 (up - v)) (hn : n ≤ 8) (hP : isP A (up - v) n) (hf : fin' n A R a e) : loop1 n A R a v up e := by
  unfold loop1 back
  simp only [LQ_eq, and_true, true_and, Int.toNat_natCast, Int.toNat_zero, c0, lit1, true_iff]
  refine ⟨⟨Nat.zero_le _, ?_⟩, fun z hz => ⟨fun hlt => ?_, fun hge => ?_⟩⟩
  · simp [isP]
  · have hz : z ≤ n := hz
    have e1 : ((z : Int) + 1).toNat = z + 1 := by omega
    rw [e1]
    refine ⟨by omega, hlt, fun hp => ⟨by simp only [i64]; omega, (show z + 1 ≤ n by omega), by omega, ?_, by omega⟩, fun hp => ⟨hb, by simp only [i64]; omega, (show z + 1 ≤ n by omega), by omega, ?_, by omega⟩⟩
    · obtain ⟨j, hj, hj2⟩ := hp
      exact ⟨j, by omega, hj2⟩
    · constructor
      · intro h; exact ⟨z, by omega, h⟩
      · rintro ⟨j, hj, hj2⟩
        rcases Nat.lt_succ_iff_lt_or_eq.1 hj with h' | rfl
        · exact absurd ⟨j, h', hj2⟩ hp
        · exact hj2
  · have hz : z ≤ n := hz
    have : z = n := by omega
    subst this
    exact ⟨fun h => absurd hP h, fun _ => hf⟩
theorem rest_true {n : Nat} {A R : Nat → Int} (hv : vL n A R) {a : Int} (h0 : 0 ≤ a) (h1 : a ≤ sI R n) : rest n A R a (volV n A R a) (volV n A R (a + 1)) (volE n A R (a + 1)) := by
  have hs := sI_le hv n (Nat.le_refl n)
  have hn := hv.1
  unfold rest
  rw [pre_eq]
  obtain ⟨v1, _⟩ := volV_in hv h0 h1
  rcases Int.lt_or_le a (sI R n) with hc | hc
  · obtain ⟨u1, u2⟩ := volV_in hv (by omega : 0 ≤ a + 1) (by omega)
    have hf : fin' n A R a (volE n A R (a + 1)) := fin_true hv (by rw [u2]; simp [hc])
    have b1 := vB hv h0
    have b2 := vB hv (by omega : 0 ≤ a + 1)
    refine ⟨by simp only [i64]; omega, fun _ => loop1_true ?_ (by omega) ?_ hf, fun _ => hf⟩
    · rw [v1, u1]; simp only [i64]; omega
    · rw [v1, u1]; exact (vI_up hv h0 n (Nat.le_refl n)).1 hc
  · have u2 := volE_out hv (h := a + 1) (by omega)
    have hf : fin' n A R a (volE n A R (a + 1)) := fin_true hv (by rw [u2]; constructor <;> intro h <;> omega)
    exact ⟨by simp only [i64]; omega, fun h => by rw [u2] at h; omega, fun _ => hf⟩
theorem at_in {a b u : Int} (h : a ≤ b) (hu : 0 ≤ u) : a ≤ atI a b u ∧ atI a b u ≤ b := by
  have h1 := Int.tmod_nonneg (b - a + 1) hu
  have h2 := Int.tmod_lt_of_pos u (by omega : 0 < b - a + 1)
  simp only [atI]; omega
end Go.Proofs.Ytoeolgeidpjgbaa

set_option linter.unusedVariables false
namespace Go.Proofs.Ytoeolgeidpjgbaa
open Go Go.Lg
attribute [local irreducible] funS
theorem main_true {n : Nat} {A R : Nat → Int} {a b c d u w X0 Y0 E0 at' t v ve xl xh xe yl yh ye : Int} {REST : Prop}
    (hu : 0 ≤ u ∧ u ≤ 65535) (hw : 0 ≤ w ∧ w ≤ 65535)
    (H0 : ¬ E0 = 0 → X0 = 0 ∧ Y0 = 0 ∧ (E0 = 1 ↔ ¬ vL n A R))
    (H1 : E0 = 0 → vL n A R ∧ (0 ≤ a ∧ a ≤ b ∧ b ≤ 400) ∧ (-150 ≤ c ∧ c ≤ d ∧ d ≤ 150) ∧ (0 ≤ X0 ∧ X0 ≤ Y0) ∧ (a ≤ at' ∧ at' ≤ b) ∧ (c ≤ t ∧ t ≤ d) ∧ (ve = 0 ∧ xe = 0 ∧ ye = 0) ∧ (yl = v ∧ yh = v) ∧
      (X0 ≤ xl ∧ xh ≤ Y0 ∧ xh - xl ≤ 1 ∧ xl ≤ xh) ∧ (0 ≤ v ∧ v ≤ 40000000) ∧ (xl * (500 + t) ≤ 500 * v ∧ 500 * v ≤ xh * (500 + t) ∧ 500 * v < (xl + 1) * (500 + t)) ∧ (xh * (500 + t) ≤ 1000000000000 ∧ (xl + 1) * (500 + t) ≤ 1000000000000 ∧ 0 ≤ xl * (500 + t) ∧ xl ≤ 1000000000000) ∧ REST) :
    main' n A R a b c d u w X0 Y0 E0 at' t v ve xl xh xe yl yh ye REST := by
  unfold main'
  by_cases hE : E0 = 0
  · obtain ⟨hv, ha, hc, hX, hat, ht, ⟨rfl, rfl, rfl⟩, ⟨rfl, rfl⟩, hx, hvv, hm, hB, hR⟩ := H1 hE
    subst hE
    have f1 : ¬ Y0 < X0 := by omega
    have f2 : ¬ X0 < 0 := by omega
    have f3 : ¬ xl < X0 := by omega
    have f4 : ¬ Y0 < xh := by omega
    have f5 : ¬ 1 < xh - xl := by omega
    have f6 : ¬ 500 * yh < xl * (500 + t) := by omega
    have f7 : ¬ xh * (500 + t) < 500 * yh := by omega
    have f8 : ¬ (xl + 1) * (500 + t) ≤ 500 * yh := by omega
    have f9 : xl = xh → xl * (500 + t) = 500 * yh := by rintro rfl; omega
    have g1 : i64 u := by simp only [i64]; omega
    have g2 : i64 (b - a) := by simp only [i64]; omega
    have g3 : i64 (b - a + 1) := by simp only [i64]; omega
    have g4 : ¬ b - a + 1 = 0 := by omega
    have g5 : i64 at' := by simp only [i64]; omega
    have g6 : i64 w := by simp only [i64]; omega
    have g7 : i64 (d - c) := by simp only [i64]; omega
    have g8 : i64 (d - c + 1) := by simp only [i64]; omega
    have g9 : ¬ d - c + 1 = 0 := by omega
    have g10 : i64 t := by simp only [i64]; omega
    have g11 : i64 (xh - xl) := by simp only [i64]; omega
    have g12 : i64 (500 + t) := by simp only [i64]; omega
    have g13 : i64 (xl * (500 + t)) := by simp only [i64]; omega
    have g14 : i64 (500 * yh) := by simp only [i64]; omega
    have g15 : i64 (xh * (500 + t)) := by simp only [i64]; omega
    have g16 : i64 (xl + 1) := by simp only [i64]; omega
    have g17 : i64 ((xl + 1) * (500 + t)) := by simp only [i64]; omega
    have r : ∀ P : Prop, (P → REST) := fun _ _ => hR
    by_cases hxx : xl = xh
    · have f9 := f9 hxx
      subst hxx
      simp only [pre_eq, lit1, hv, f1, f2, f3, f4, f5, f8, f9, g1, g2, g3, g4, g5, g6, g7, g8, g9, g10, g11, g12, g14, g16, g17, hR, not_true, not_false_eq_true, and_true, true_and, implies_true, false_implies, and_self, Int.lt_irrefl]
    · simp only [pre_eq, lit1, hv, hxx, f1, f2, f3, f4, f5, f6, f7, f8, g1, g2, g3, g4, g5, g6, g7, g8, g9, g10, g11, g12, g13, g14, g15, g16, g17, hR, not_true, not_false_eq_true, and_true, true_and, implies_true, false_implies, and_self]
  · obtain ⟨rfl, rfl, h⟩ := H0 hE
    simp only [pre_eq, lit1, hE, h, not_true, not_false_eq_true, and_true, true_and, implies_true, false_implies, and_self]
end Go.Proofs.Ytoeolgeidpjgbaa

set_option linter.unusedVariables false
namespace Go.Proofs.Ytoeolgeidpjgbaa
open Go Go.Lg
attribute [local irreducible] funS
theorem hE_zero {n : Nat} {A R : Nat → Int} {a b c d : Int} (h : hE n A R a b c d = 0) : vL n A R ∧ okS n R a b c d := by
  unfold hE at h
  split at h
  · split at h
    · exact ⟨by assumption, by assumption⟩
    · omega
  · omega
theorem hXY {n : Nat} {A R : Nat → Int} {a b c d : Int} (hv : vL n A R) (h : okS n R a b c d) :
    hX n A R a b c d = heldLo n A R a d ∧ hY n A R a b c d = heldHi n A R b c ∧ hE n A R a b c d = 0 := by
  simp [hX, hY, hE, hv, h]
theorem hE_not {n : Nat} {A R : Nat → Int} {a b c d : Int} (h : ¬ hE n A R a b c d = 0) : hX n A R a b c d = 0 ∧ hY n A R a b c d = 0 ∧ (hE n A R a b c d = 1 ↔ ¬ vL n A R) := by
  by_cases hv : vL n A R
  · by_cases hs : okS n R a b c d
    · exact absurd (hXY hv hs).2.2 h
    · simp [hX, hY, hE, hv, hs]
  · simp [hX, hY, hE, hv]
theorem gas_true (n : Nat) (A R : Nat → Int) (a b c d u w : Int) (hu : 0 ≤ u ∧ u ≤ 65535) (hw : 0 ≤ w ∧ w ≤ 65535) : gasG n A R a b c d u w := by
  rw [gasG_vc]
  refine main_true hu hw hE_not fun hE => ?_
  obtain ⟨hv, hs⟩ := hE_zero hE
  obtain ⟨h1, h2⟩ := hs
  have hsb := sB hv
  have hat := at_in h1.2.1 hu.1
  have ht := at_in h2.2.1 hw.1
  generalize atI a b u = at' at hat ⊢
  generalize atI c d w = t at ht ⊢
  obtain ⟨e1, e2, _⟩ := hXY hv (a := a) (b := b) (c := c) (d := d) ⟨h1, h2⟩
  obtain ⟨e3, e4, e5⟩ := hXY hv (a := at') (b := at') (c := t) (d := t) ⟨by omega, by omega⟩
  obtain ⟨e6, e7, e8⟩ := hXY hv (a := at') (b := at') (c := 0) (d := 0) ⟨by omega, by omega⟩
  obtain ⟨v1, v2⟩ := volV_in hv (h := at') (by omega) (by omega)
  have hR := rest_true hv (a := at') (by omega) (by omega)
  have m1 := vI_mono hv h1.1 hat.1 n (Nat.le_refl n)
  have m2 := vI_mono hv (by omega : 0 ≤ at') hat.2 n (Nat.le_refl n)
  have b1 := vB hv h1.1
  have b2 := vB hv (by omega : 0 ≤ at')
  have b3 := vB hv (by omega : 0 ≤ b)
  have k1 := fl_mono (z := 500 * vI A R a n) (z' := 500 * vI A R at' n) (w := 500 + t) (w' := 500 + d) (by omega) (by omega) (by omega) (by omega)
  have k2 := ce_mono (z := 500 * vI A R at' n) (z' := 500 * vI A R b n) (w := 500 + c) (w' := 500 + t) (by omega) (by omega) (by omega) (by omega)
  have k3 := fl_ce (z := 500 * vI A R at' n) (w := 500 + t) (by omega) (by omega)
  have k4 := fl (z := 500 * vI A R at' n) (w := 500 + t) (by omega) (by omega)
  have k5 := ce (z := 500 * vI A R at' n) (w := 500 + t) (by omega) (by omega)
  have k6 := tdivB (z := 500 * vI A R a n) (w := 500 + d) (by omega) (by omega)
  have k7 := tdivB (z := 500 * vI A R at' n) (w := 500 + t) (by omega) (by omega)
  have y1 : heldLo n A R at' 0 = vI A R at' n := by
    simp only [heldLo]
    rw [Int.tdiv_eq_ediv_of_nonneg (by omega)]
    omega
  have y2 : heldHi n A R at' 0 = vI A R at' n := by
    simp only [heldHi]
    rw [Int.tdiv_eq_ediv_of_nonneg (by omega)]
    omega
  rw [v1] at hR
  rw [e1, e2, e3, e4, e5, e6, e7, e8, v1, v2, y1, y2]
  have k8 := Int.mul_nonneg k7.1 (by omega : 0 ≤ 500 + t)
  have k9 : ((500 * vI A R at' n).tdiv (500 + t) + 1) * (500 + t) = (500 * vI A R at' n).tdiv (500 + t) * (500 + t) + (500 + t) := by rw [Int.add_mul, Int.one_mul]
  have k10 : ((500 * vI A R at' n + (500 + t) - 1).tdiv (500 + t) - 1) * (500 + t) = (500 * vI A R at' n + (500 + t) - 1).tdiv (500 + t) * (500 + t) - (500 + t) := by rw [Int.sub_mul, Int.one_mul]
  simp only [heldLo, heldHi]
  generalize hq : (500 * vI A R at' n).tdiv (500 + t) = q at *
  generalize hp : (500 * vI A R at' n + (500 + t) - 1).tdiv (500 + t) = p at *
  exact ⟨hv, by omega, by omega, by omega, by omega, by omega, by simp, by simp, by omega, by omega, by omega, by omega, hR⟩
theorem gas_does (n : Nat) (A R : Nat → Int) (a b c d u w : Int) (hu : 0 ≤ u ∧ u ≤ 65535) (hw : 0 ≤ w ∧ w ≤ 65535) :
    Does Try.prog 12 false (SV.denL [lifts n A R, .agg [.int .i64 a, .int .i64 b], .agg [.int .i64 c, .int .i64 d], .int .u16 u, .int .u16 w]) (.sc (.bool true)) := by
  have hh := gas_true n A R a b c d u w hu hw
  unfold gasG at hh
  exact funS_does csE_sound mixed hh
end Go.Proofs.Ytoeolgeidpjgbaa
