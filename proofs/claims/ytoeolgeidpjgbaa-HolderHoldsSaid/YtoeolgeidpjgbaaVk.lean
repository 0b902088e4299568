import Derived.Test.YtoeolgeidpjgbaaVeVfVi
import Derived.Test.YtoeolgeidpjgbaaAn
set_option linter.unusedVariables false
namespace Go.Proofs.Ytoeolgeidpjgbaa
open Go Go.Lg
attribute [local irreducible] funS
theorem lawG_vc (n : Nat) (A R : Nat → Int) (h a b c d : Int) : lawG n A R h a b c d =
  ((8 < (n : Int) → true = true ∧ True) ∧ (¬ 8 < (n : Int) → pre n A R (pre n A R ((0 : Nat) < nat_lit 1 ∧ (0 : Nat) < nat_lit 1 ∧ pre n A R ((0 : Nat) < nat_lit 1 ∧ (0 : Nat) < nat_lit 1 ∧ pre n A R (
    (volV n A R h = volV n A R h → (volE n A R h = volE n A R h → (0 : Nat) < nat_lit 1 ∧ (0 : Nat) < nat_lit 1 ∧
      ((hX n A R a b c d = hX n A R a b c d ∧ hY n A R a b c d = hY n A R a b c d → (hE n A R a b c d = hE n A R a b c d → true = true ∧ True) ∧ (¬ hE n A R a b c d = hE n A R a b c d → false = true ∧ True)) ∧
       (¬ (hX n A R a b c d = hX n A R a b c d ∧ hY n A R a b c d = hY n A R a b c d) → false = true ∧ True))) ∧
      (¬ volE n A R h = volE n A R h → false = true ∧ True)) ∧
    (¬ volV n A R h = volV n A R h → false = true ∧ True)))))) ) := by kernel_rfl
theorem law_true (n : Nat) (A R : Nat → Int) (h a b c d : Int) : lawG n A R h a b c d := by
  rw [lawG_vc]
  simp [pre_eq]
theorem alive_ok : aliveC.Ok Try.prog := by
  refine ⟨by kernel_rfl, fun args k h => ?_⟩
  simp only [aliveC] at h
  split at h
  · exact ⟨.bool true, Does.plain (res := .bool true) An_does trivial, h⟩
  · exact h.elim
theorem csD_sound : SoundS Try.prog csD := ctrs_sound (by
  intro x hx
  simp only [List.mem_cons, List.not_mem_nil, or_false] at hx
  rcases hx with rfl | rfl | rfl | rfl | rfl
  · exact alive_ok
  · exact volume_ok
  · exact volume2_ok
  · exact Held_ok
  · exact Held2_ok)
theorem law_does (n : Nat) (A R : Nat → Int) (h a b c d : Int) : Does Try.prog 3 false (SV.denL [lifts n A R, .int .i64 h, .agg [.int .i64 a, .int .i64 b], .agg [.int .i64 c, .int .i64 d]]) (.sc (.bool true)) := by
  have hh := law_true n A R h a b c d
  unfold lawG at hh
  exact funS_does csD_sound mixed hh
end Go.Proofs.Ytoeolgeidpjgbaa
