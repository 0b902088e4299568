import Derived.Test.YtfobgmecnlehaaaDcDcVDd
import Derived.Test.YtfobgmecnlehaaaYb
set_option linter.unusedVariables false
set_option linter.unusedSimpArgs false
namespace Go.Proofs.Ytfobgmecnlehaaa
open Go Go.Lg
attribute [local irreducible] bodyH funS
noncomputable def awC : Ctr := ⟨15, fun args k => match args with
  | [] => k (.bool true)
  | _ => False⟩
theorem aw_ok : awC.Ok Try.prog := by
  refine ⟨by kernel_rfl, fun x k hk => ?_⟩
  simp only [awC] at hk
  split at hk
  · exact ⟨.bool true, Does.plain (res := .bool true) Yb_does trivial, hk⟩
  · exact hk.elim
noncomputable def csR : CSpec := ctrs [RtC 11, RtC 12, DsC 13, DsC 14, vaC 24, awC]
theorem csR_sound : SoundS Try.prog csR := ctrs_sound (by
  intro x hx
  simp at hx
  rcases hx with rfl | rfl | rfl | rfl | rfl | rfl
  · exact Rt_ok
  · exact Rr_ok
  · exact Ds_ok
  · exact Dr_ok
  · exact ra_ok
  · exact aw_ok)
noncomputable def l7G (a : Act) (p b : Int) : Prop := funH Try.prog csR noX (ictrs []) noL noL 7 [a.sv, i6 p, .int .u16 b] (.bool true)
end Go.Proofs.Ytfobgmecnlehaaa

set_option maxRecDepth 100000
namespace Go.Proofs.Ytfobgmecnlehaaa
open Go Go.Lg
end Go.Proofs.Ytfobgmecnlehaaa

set_option maxRecDepth 100000
namespace Go.Proofs.Ytfobgmecnlehaaa
open Go Go.Lg
def l7G1 (a : Ytfobgmecnlehaaa.Act) (p : Int) : Prop := (¬rtN a p = (10000 : Int) → (dsE a (min (10000 : Int) (rtN a p + (1 : Int))) = (4 : Int) → (dsN a (min (10000 : Int) (rtN a p + (1 : Int))) = (0 : Int) → rE true ∧ True) ∧ (¬dsN a (min (10000 : Int) (rtN a p + (1 : Int))) = (0 : Int) → (dsE a (min (10000 : Int) (rtN a p + (1 : Int))) = (0 : Int) → (dsN a (min (10000 : Int) (rtN a p + (1 : Int))) < p → rE true ∧ True) ∧ (¬dsN a (min (10000 : Int) (rtN a p + (1 : Int))) < p → false = true ∧ True)) ∧ (¬dsE a (min (10000 : Int) (rtN a p + (1 : Int))) = (0 : Int) → false = true ∧ True))) ∧ (¬dsE a (min (10000 : Int) (rtN a p + (1 : Int))) = (4 : Int) → (dsE a (min (10000 : Int) (rtN a p + (1 : Int))) = (0 : Int) → (dsN a (min (10000 : Int) (rtN a p + (1 : Int))) < p → rE true ∧ True) ∧ (¬dsN a (min (10000 : Int) (rtN a p + (1 : Int))) < p → false = true ∧ True)) ∧ (¬dsE a (min (10000 : Int) (rtN a p + (1 : Int))) = (0 : Int) → false = true ∧ True)))
def l7G2 (a : Ytfobgmecnlehaaa.Act) (p : Int) : Prop := (rtN a p = (10000 : Int) → (dsE a (min (10000 : Int) (rtN a p + (1 : Int))) = (0 : Int) → (dsN a (min (10000 : Int) (rtN a p + (1 : Int))) = dsN a (rtN a p) → rE true ∧ True) ∧ (¬dsN a (min (10000 : Int) (rtN a p + (1 : Int))) = dsN a (rtN a p) → false = true ∧ True)) ∧ (¬dsE a (min (10000 : Int) (rtN a p + (1 : Int))) = (0 : Int) → false = true ∧ True))
def l7G0 (a : Ytfobgmecnlehaaa.Act) (p : Int) : Prop := (¬ ¬rtE a a.1 = (0 : Int) → (0 : Nat) < (1 : Nat) ∧ (¬rtN a a.1 = a.2 → false = true ∧ True) ∧ (¬ ¬rtN a a.1 = a.2 → (¬dsE a (rtN a p) = (0 : Int) → false = true ∧ True) ∧ (¬ ¬dsE a (rtN a p) = (0 : Int) → (dsN a (rtN a p) < p → false = true ∧ True) ∧ (¬dsN a (rtN a p) < p → ((100000 : Int) < dsN a (rtN a p) → false = true ∧ True) ∧ (¬(100000 : Int) < dsN a (rtN a p) → (0 : Nat) < (1 : Nat) ∧ (0 : Nat) < (1 : Nat) ∧ rI (dsN a (rtN a p) + (1 : Int)) ∧ (¬rtE a (dsN a (rtN a p)) = (0 : Int) → false = true ∧ True) ∧ (¬ ¬rtE a (dsN a (rtN a p)) = (0 : Int) → (rtN a (dsN a (rtN a p)) < rtN a p → false = true ∧ True) ∧ (¬rtN a (dsN a (rtN a p)) < rtN a p → (rtE a (dsN a (rtN a p) + (1 : Int)) = (0 : Int) → (rtN a p ≤ rtN a (dsN a (rtN a p) + (1 : Int)) → false = true ∧ True) ∧ (¬rtN a p ≤ rtN a (dsN a (rtN a p) + (1 : Int)) → (¬rtE a (dsN a (rtN a p) + (1 : Int)) = (0 : Int) → (¬dsN a (rtN a p) = (100000 : Int) → false = true ∧ True) ∧ (¬ ¬dsN a (rtN a p) = (100000 : Int) → (0 : Nat) < (1 : Nat) ∧ rI (rtN a p + (1 : Int)) ∧ (l7G2 a p) ∧ (l7G1 a p))) ∧ (¬ ¬rtE a (dsN a (rtN a p) + (1 : Int)) = (0 : Int) → (0 : Nat) < (1 : Nat) ∧ rI (rtN a p + (1 : Int)) ∧ (l7G2 a p) ∧ (l7G1 a p)))) ∧ (¬rtE a (dsN a (rtN a p) + (1 : Int)) = (0 : Int) → (¬rtE a (dsN a (rtN a p) + (1 : Int)) = (0 : Int) → (¬dsN a (rtN a p) = (100000 : Int) → false = true ∧ True) ∧ (¬ ¬dsN a (rtN a p) = (100000 : Int) → (0 : Nat) < (1 : Nat) ∧ rI (rtN a p + (1 : Int)) ∧ (l7G2 a p) ∧ (l7G1 a p))) ∧ (¬ ¬rtE a (dsN a (rtN a p) + (1 : Int)) = (0 : Int) → (0 : Nat) < (1 : Nat) ∧ rI (rtN a p + (1 : Int)) ∧ (l7G2 a p) ∧ (l7G1 a p))))))))))
theorem l7G_vc (a : Ytfobgmecnlehaaa.Act) (p : Int) (b : Int) : l7G a p b =
 ((0 : Nat) < (1 : Nat) ∧ (¬rtE a p = (0 : Int) → (rtN a p = (0 : Int) → (0 : Nat) < (1 : Nat) ∧ ((rtE a p = (1 : Int) ↔ ¬okA a) → rE true ∧ True) ∧ (¬(rtE a p = (1 : Int) ↔ ¬okA a) → false = true ∧ True)) ∧ (¬rtN a p = (0 : Int) → false = true ∧ True)) ∧ (¬ ¬rtE a p = (0 : Int) → (0 : Nat) < (1 : Nat) ∧ (¬okA a → false = true ∧ True) ∧ (¬ ¬okA a → (rtN a p < (0 : Int) → false = true ∧ True) ∧ (¬rtN a p < (0 : Int) → ((10000 : Int) < rtN a p → false = true ∧ True) ∧ (¬(10000 : Int) < rtN a p → (0 : Nat) < (1 : Nat) ∧ rI (b) ∧ rI (p - b) ∧ (¬rtE a (max (0 : Int) (p - b)) = (0 : Int) → false = true ∧ True) ∧ (¬ ¬rtE a (max (0 : Int) (p - b)) = (0 : Int) → (rtN a (max (0 : Int) (p - b)) < rtN a p → false = true ∧ True) ∧ (¬rtN a (max (0 : Int) (p - b)) < rtN a p → (0 : Nat) < (1 : Nat) ∧ (a.3 ≤ p → (0 : Nat) < (1 : Nat) ∧ (0 : Nat) < (1 : Nat) ∧ rI (p - a.3) ∧ (¬rtE a (p - a.3) = (0 : Int) →
 false = true ∧ True) ∧ (¬ ¬rtE a (p - a.3) = (0 : Int) → (0 : Nat) < (1 : Nat) ∧ rI (rtN a p + a.4) ∧ (rtN a p + a.4 < rtN a (p - a.3) → false = true ∧ True) ∧ (¬rtN a p + a.4 < rtN a (p - a.3) → (rtN a (p - a.3) < rtN a p → false = true ∧ True) ∧ (¬rtN a (p - a.3) < rtN a p → ((0 : Int) < rtN a p → (rtN a (p - a.3) < (10000 : Int) → (0 : Nat) < (1 : Nat) ∧ rI (rtN a p + a.4) ∧ (¬rtN a (p - a.3) = rtN a p + a.4 → false = true ∧ True) ∧ (¬ ¬rtN a (p - a.3) = rtN a p + a.4 → (0 : Nat) < (1 : Nat) ∧ (0 : Nat) < (1 : Nat) ∧ (0 : Nat) < (1 : Nat) ∧ (¬rtE a a.1 = (0 : Int) → false = true ∧ True) ∧ (l7G0 a p))) ∧ (¬rtN a (p - a.3) < (10000 : Int) → (0 : Nat) < (1 : Nat) ∧ (0 : Nat) < (1 : Nat) ∧ (0 : Nat) < (1 : Nat) ∧ (¬rtE a a.1 = (0 : Int) → false = true ∧ True) ∧ (l7G0 a p))) ∧ (¬(0 : Int) < rtN a p → (0 : Nat) < (1 : Nat) ∧ (0 : Nat) < (1 : Nat) ∧ (0 : Nat) < (1 : Nat) ∧ (¬rtE a a.1 = (0
 : Int) → false = true ∧ True) ∧ (l7G0 a p)))))) ∧ (¬a.3 ≤ p → (0 : Nat) < (1 : Nat) ∧ (0 : Nat) < (1 : Nat) ∧ (0 : Nat) < (1 : Nat) ∧ (¬rtE a a.1 = (0 : Int) → false = true ∧ True) ∧ (l7G0 a p))))))))) := by kernel_rfl
end Go.Proofs.Ytfobgmecnlehaaa

set_option maxRecDepth 100000
namespace Go.Proofs.Ytfobgmecnlehaaa
open Go Go.Lg
attribute [local irreducible] funS bodyH
theorem ds_cases {a : Act} (h : okA a) {r : Int} (hr : bt 0 10000 r) : (dsE a r = 4 ∧ dsN a r = 0 ∧ ∀ q : Nat, q ≤ 100000 → rtA a q < r) ∨ ∃ d : Nat, dsE a r = 0 ∧ dsN a r = d ∧ d ≤ 100000 ∧ r ≤ rtA a d ∧ ∀ q : Nat, d < q → q ≤ 100000 → rtA a q < r := by
  rcases gr_spec a r 100000 with ⟨h1, h2⟩ | ⟨d, h1, h2, h3, h4⟩
  · obtain ⟨e1, e2⟩ := dsE4 h hr h1
    exact .inl ⟨e1, e2, h2⟩
  · have hd : dst a r = d := h1
    obtain ⟨e1, e2⟩ := dsE0 h hr (by rw [hd]; omega)
    exact .inr ⟨d, e1, by rw [e2, hd], h2, h3, h4⟩
theorem rt_bd (a : Act) (p : Int) : bt 0 10000 (rtA a p) := by unfold rtA bt; omega
theorem rt_own {a : Act} (h : okA a) : rtA a a.pr = a.dv := by
  have h1 := h.dv
  unfold bt at h1
  unfold rtA stA
  rw [Int.sub_self, Int.zero_ediv, Int.mul_zero]; omega
theorem st_step {a : Act} (h : okA a) (p : Int) : stA a (p - a.st) = stA a p + 1 := by
  unfold stA
  have h1 := h.st.1
  rw [show a.pr - (p - a.st) = (a.pr - p) + 1 * a.st by omega, Int.add_mul_ediv_right _ _ (by omega)]
theorem rt_step {a : Act} (h : okA a) (p : Int) : rtA a (p - a.st) ≤ rtA a p + a.gn ∧ (0 < rtA a p → rtA a (p - a.st) < 10000 → rtA a (p - a.st) = rtA a p + a.gn) := by
  have h1 := h.gn.1
  unfold rtA
  rw [st_step h, Int.mul_add, Int.mul_one]
  omega
theorem l7_last {a : Act} (h : okA a) {p : Int} (hp : bt 0 100000 p) : l7G2 a p ∧ l7G1 a p := by
  obtain ⟨e1, e2⟩ := rtE0 h hp
  have hb := rt_bd a p
  unfold bt at hb hp
  obtain ⟨P, rfl⟩ := Int.eq_ofNat_of_zero_le hp.1
  unfold l7G2 l7G1
  rw [e2]
  simp only [rE, and_true, true_and, Bool.false_eq_true, imp_false, Classical.not_not, implies_true]
  constructor
  · intro hn
    have em : min 10000 (rtA a P + 1) = rtA a P := by omega
    rw [em]
    rcases ds_cases h (r := rtA a P) (rt_bd a P) with ⟨a1, a2, a3⟩ | ⟨d, a1, a2, a3, a4, a5⟩
    · have := a3 P (by omega); omega
    · exact ⟨fun _ => rfl, a1⟩
  · intro hn
    have em : min 10000 (rtA a P + 1) = rtA a P + 1 := by omega
    rw [em]
    rcases ds_cases h (r := rtA a P + 1) ⟨by omega, by omega⟩ with ⟨a1, a2, a3⟩ | ⟨d, a1, a2, a3, a4, a5⟩
    · rw [a1, a2]; simp
    · rw [a1, a2]
      have hd : (d : Int) < P := by
        apply Classical.byContradiction
        intro hc
        have := rt_anti h (p := P) (q := d) (by omega)
        omega
      simp [hd]
theorem l7_rest {a : Act} (h : okA a) {p : Int} (hp : bt 0 100000 p) : l7G0 a p := by
  obtain ⟨l2, l1⟩ := l7_last h hp
  obtain ⟨e1, e2⟩ := rtE0 h hp
  obtain ⟨o1, o2⟩ := rtE0 h h.pr
  have ho := rt_own h
  have hb := rt_bd a p
  unfold l7G0
  simp only [l1, l2, rI, rE, and_true, true_and, Bool.false_eq_true, imp_false, Classical.not_not, implies_true, Nat.zero_lt_one]
  rw [e2]
  obtain ⟨P, rfl⟩ := Int.eq_ofNat_of_zero_le hp.1
  unfold bt at hb hp
  rcases ds_cases h (r := rtA a P) (rt_bd a P) with ⟨a1, a2, a3⟩ | ⟨d, a1, a2, a3, a4, a5⟩
  · have := a3 P (by omega); omega
  · rw [a1, a2]
    obtain ⟨d1, d2⟩ := rtE0 h (p := d) ⟨by omega, by omega⟩
    rw [d1, d2]
    have hPd : P ≤ d := by
      apply Classical.byContradiction
      intro hc
      have := a5 P (by omega) (by omega)
      omega
    have hr : rI ((d : Int) + 1) := by unfold rI; omega
    have hr2 : rI (rtA a P + 1) := by unfold rI; omega
    unfold rI at hr hr2
    by_cases hd : d + 1 ≤ 100000
    · obtain ⟨u1, u2⟩ := rtE0 h (p := (d : Int) + 1) ⟨by omega, by omega⟩
      have u3 := a5 (d + 1) (by omega) hd
      have e : ((d + 1 : Nat) : Int) = (d : Int) + 1 := by omega
      rw [e] at u3
      simp only [o1, o2, ho, u1, u2, true_implies, true_and, not_true_eq_false, false_implies, and_true, implies_true]
      omega
    · obtain ⟨u1, u2⟩ := rtE2 h (p := (d : Int) + 1) (fun hc => by have := hc.2; omega)
      simp only [o1, o2, ho, u1, u2, true_implies, true_and, not_true_eq_false, false_implies, and_true, implies_true]
      omega
theorem l7_true (a : Act) (p : Int) (b : Int) (hb : 0 ≤ b ∧ b ≤ 65535) (hpp : rI p) : l7G a p b := by
  rw [l7G_vc]
  by_cases h : okA a
  · by_cases hp : bt 0 100000 p
    · have h0 := l7_rest h hp
      obtain ⟨e1, e2⟩ := rtE0 h hp
      obtain ⟨o1, o2⟩ := rtE0 h h.pr
      have hbd := rt_bd a p
      have hq : bt 0 100000 (max 0 (p - b)) := by unfold bt at hp ⊢; omega
      obtain ⟨q1, q2⟩ := rtE0 h hq
      have q3 := rt_anti h (p := max 0 (p - b)) (q := p) (by have := hp.1; omega)
      obtain ⟨t1, t2⟩ := rt_step h p
      have hg := h.gn
      have hs := h.st
      unfold bt at hbd hp hg hs
      have hr := fun hl : a.st ≤ p => rtE0 h (p := p - a.st) ⟨by omega, by omega⟩
      have t3 := rt_anti h (p := p - a.st) (q := p) (by omega)
      simp only [h0, h, e1, e2, q1, q2, o1, rI, rE, and_true, true_and, Bool.false_eq_true, imp_false, Classical.not_not, implies_true, Nat.zero_lt_one, not_true_eq_false, not_false_eq_true, false_implies, true_implies]
      refine ⟨by omega, fun _ => ⟨by omega, fun _ => ⟨by omega, by omega, by omega, fun _ hl => ?_⟩⟩⟩
      obtain ⟨r1, r2⟩ := hr hl
      rw [r1, r2]
      refine ⟨by omega, rfl, fun _ => ⟨by omega, by omega, fun _ => ⟨by omega, fun _ => fun h5 h6 => ⟨by omega, t2 h5 h6⟩⟩⟩⟩
    · obtain ⟨e1, e2⟩ := rtE2 h hp
      simp only [h, e1, e2, rI, rE, and_true, true_and, Bool.false_eq_true, imp_false, Classical.not_not, implies_true, Nat.zero_lt_one, not_true_eq_false, false_implies, true_implies]
      simp
  · obtain ⟨e1, e2⟩ := rtE1 (p := p) h
    simp only [h, e1, e2, rI, rE, and_true, true_and, Bool.false_eq_true, imp_false, Classical.not_not, implies_true, Nat.zero_lt_one, not_true_eq_false, false_implies, true_implies]
    simp
end Go.Proofs.Ytfobgmecnlehaaa
