import Derived.Test.YtgidaaogknikoaaGeGeVGf
set_option linter.unusedVariables false
set_option linter.unusedSimpArgs false
namespace Go.Proofs.Ytgidaaogknikoaa
open Go Go.Lg
attribute [local irreducible] bodyH funS
end Go.Proofs.Ytgidaaogknikoaa

set_option maxRecDepth 100000
namespace Go.Proofs.Ytgidaaogknikoaa
open Go Go.Lg
end Go.Proofs.Ytgidaaogknikoaa

set_option maxRecDepth 100000
namespace Go.Proofs.Ytgidaaogknikoaa
open Go Go.Lg
attribute [local irreducible] funS bodyH
theorem cmpK_lt (a b : Int × Int) : cmpK a b < 0 ↔ ltK a b := by
  unfold cmpK orI cmpI ltK
  repeat' split
  all_goals omega
end Go.Proofs.Ytgidaaogknikoaa

set_option maxRecDepth 100000
namespace Go.Proofs.Ytgidaaogknikoaa
open Go Go.Lg
attribute [local irreducible] funS bodyH
theorem ltK_irr (a : Int × Int) : ¬ ltK a a := by unfold ltK; omega
theorem ltK_trans {a b c : Int × Int} (h : ltK a b) (h2 : ltK b c) : ltK a c := by unfold ltK at *; omega
theorem ltK_eq {a b : Int × Int} (h : ¬ ltK a b) (h2 : ¬ ltK b a) : a = b := by
  unfold ltK at *
  have : a.1 = b.1 ∧ a.2 = b.2 := by omega
  exact Prod.ext this.1 this.2
theorem least_min {v : Nat → Int × Int} : ∀ {m : Nat}, 0 < m → (∃ i, i < m ∧ leastJ v m = v i) ∧ ∀ j, j < m → ¬ ltK (v j) (leastJ v m)
  | 0, h => by omega
  | m + 1, _ => by
    by_cases hm : m = 0 ∨ cmpK (v m) (leastJ v m) < 0
    · rw [least_in hm]
      refine ⟨⟨m, by omega, rfl⟩, fun j hj => ?_⟩
      by_cases e : j = m
      · subst e; exact ltK_irr _
      · rcases hm with hm | hm
        · omega
        · have ih := (least_min (v := v) (m := m) (by omega)).2 j (by omega)
          exact fun h => ih (ltK_trans h ((cmpK_lt _ _).1 hm))
    · have h0 : ¬ m = 0 := fun h => hm (.inl h)
      have h1 : ¬ cmpK (v m) (leastJ v m) < 0 := fun h => hm (.inr h)
      rw [least_out h0 h1]
      obtain ⟨⟨i, hi, he⟩, h2⟩ := least_min (v := v) (m := m) (by omega)
      refine ⟨⟨i, by omega, he⟩, fun j hj => ?_⟩
      by_cases e : j = m
      · subst e; exact fun h => h1 ((cmpK_lt _ _).2 h)
      · exact h2 j (by omega)
theorem isFi_ex {T : Tl} {st p a : Int} (ht : okTl T) (hp : 1 ≤ p) (ha : 0 ≤ a) : ∃ u, isFi T st p a u := by
  have key : ∀ k : Nat, gapP T st p (a + k) → ∃ u, isFi T st p a u := by
    intro k
    induction k using Nat.strongRecOn with
    | _ k ih =>
      intro hk
      by_cases hex : ∃ j : Nat, j < k ∧ gapP T st p (a + j)
      · obtain ⟨j, hj, hg⟩ := hex
        exact ih j hj hg
      · refine ⟨a + k, by omega, hk, fun x h1 h2 hg => hex ⟨(x - a).toNat, by omega, ?_⟩⟩
        have : a + ((x - a).toNat : Int) = x := by omega
        rw [this]; exact hg
  refine key (1048576 + p).toNat fun i hi hs hw => ?_
  have := (ht i hi).h1
  have := hw.1
  omega
theorem untI_is {T : Tl} {st p a : Int} (ht : okTl T) (hp : 1 ≤ p) (ha : 0 ≤ a) : isFi T st p a (untI T st p a) := Classical.epsilon_spec (p := isFi T st p a) (isFi_ex ht hp ha)
theorem gp_at {T : Tl} {st p lo hi : Int} {j : Nat} (hj : j < gpN T st p lo hi) : ∃ s : Nat, (s : Int) < st ∧ untI T s p (lo + p - 1) ≤ hi ∧ gpK T st p lo hi j = (untI T s p (lo + p - 1), (s : Int)) := by
  have := fi_mem (p := gpP T p lo hi) (m := st.toNat) hj
  exact ⟨(gpL T st p lo hi).getD j 0, by have := this.1; show (((fiL (gpP T p lo hi) st.toNat).getD j 0 : Nat) : Int) < st; omega, this.2, rfl⟩
theorem gp_has {T : Tl} {st p lo hi : Int} {s : Nat} (hs : (s : Int) < st) (h : untI T s p (lo + p - 1) ≤ hi) : ∃ j, j < gpN T st p lo hi ∧ gpK T st p lo hi j = (untI T s p (lo + p - 1), (s : Int)) := by
  have hw : gpP T p lo hi s := h
  obtain ⟨g1, g2⟩ := fi_get (m := st.toNat) hw (by omega)
  refine ⟨fiN (gpP T p lo hi) s, g1, ?_⟩
  unfold gpK gpL
  rw [g2]
end Go.Proofs.Ytgidaaogknikoaa
