import Derived.Test.YtfobgmecnlehaaaDcDcVDd
import Derived.Test.YtfobgmecnlehaaaYb
set_option linter.unusedVariables false
set_option linter.unusedSimpArgs false
namespace Go.Proofs.Ytfobgmecnlehaaa
open Go Go.Lg
attribute [local irreducible] bodyH funS
noncomputable def awC : Ctr := ⟨15, fun args k => match args with
  | [] => k (.bool true)
  | _ => False⟩
theorem aw_ok : awC.Ok Try.prog := by
  refine ⟨by kernel_rfl, fun x k hk => ?_⟩
  simp only [awC] at hk
  split at hk
  · exact ⟨.bool true, Does.plain (res := .bool true) Yb_does trivial, hk⟩
  · exact hk.elim
noncomputable def csR : CSpec := ctrs [RtC 11, RtC 12, DsC 13, DsC 14, vaC 24, awC]
theorem csR_sound : SoundS Try.prog csR := ctrs_sound (by
  intro x hx
  simp at hx
  rcases hx with rfl | rfl | rfl | rfl | rfl | rfl
  · exact Rt_ok
  · exact Rr_ok
  · exact Ds_ok
  · exact Dr_ok
  · exact ra_ok
  · exact aw_ok)
noncomputable def l3G (a : Act) (p r : Int) : Prop := funH Try.prog csR noX (ictrs []) noL noL 3 [a.sv, i6 p, i6 r] (.bool true)
end Go.Proofs.Ytfobgmecnlehaaa

set_option maxRecDepth 100000
namespace Go.Proofs.Ytfobgmecnlehaaa
open Go Go.Lg
theorem l3G_vc (a : Ytfobgmecnlehaaa.Act) (p : Int) (r : Int) : l3G a p r =
 ((0 : Nat) < (1 : Nat) ∧ (0 : Nat) < (1 : Nat) ∧ (0 : Nat) < (1 : Nat) ∧ (0 : Nat) < (1 : Nat) ∧ (rE (rtN (Ytfobgmecnlehaaa.Act.mk a.pr a.dv a.st a.gn a.mo a.ba) p) → (rE (rtE (Ytfobgmecnlehaaa.Act.mk a.pr a.dv a.st a.gn a.mo a.ba) p) → (rE (dsN (Ytfobgmecnlehaaa.Act.mk a.pr a.dv a.st a.gn a.mo a.ba) r) → (rE (dsE (Ytfobgmecnlehaaa.Act.mk a.pr a.dv a.st a.gn a.mo a.ba) r) → rE true ∧ True) ∧ (¬dsE (Ytfobgmecnlehaaa.Act.mk a.pr a.dv a.st a.gn a.mo a.ba) r = dsE (Ytfobgmecnlehaaa.Act.mk a.pr a.dv a.st a.gn a.mo a.ba) r → false = true ∧ True)) ∧ (¬dsN (Ytfobgmecnlehaaa.Act.mk a.pr a.dv a.st a.gn a.mo a.ba) r = dsN (Ytfobgmecnlehaaa.Act.mk a.pr a.dv a.st a.gn a.mo a.ba) r → false = true ∧ True)) ∧ (¬rtE (Ytfobgmecnlehaaa.Act.mk a.pr a.dv a.st a.gn a.mo a.ba) p = rtE (Ytfobgmecnlehaaa.Act.mk a.pr a.dv a.st a.gn a.mo a.ba) p → false = true ∧ True)) ∧ (¬rtN (Ytfobgmecnlehaaa.Act.mk a.pr a.dv
 a.st a.gn a.mo a.ba) p = rtN (Ytfobgmecnlehaaa.Act.mk a.pr a.dv a.st a.gn a.mo a.ba) p → false = true ∧ True)) := by kernel_rfl
end Go.Proofs.Ytfobgmecnlehaaa

set_option maxRecDepth 100000
namespace Go.Proofs.Ytfobgmecnlehaaa
open Go Go.Lg
end Go.Proofs.Ytfobgmecnlehaaa

set_option maxRecDepth 100000
namespace Go.Proofs.Ytfobgmecnlehaaa
open Go Go.Lg
attribute [local irreducible] funS bodyH
theorem l3_true (a : Act) (p r : Int) : l3G a p r := by
  rw [l3G_vc]
  simp only [rI, rE, and_true, true_and, Nat.zero_lt_one, and_self, implies_true, not_true_eq_false, false_imp_iff]
end Go.Proofs.Ytfobgmecnlehaaa
