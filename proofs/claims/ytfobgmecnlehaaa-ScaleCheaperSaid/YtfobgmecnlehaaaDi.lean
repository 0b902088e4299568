/- A lesser price has no lesser rate, a step is worth a gain between the bounds, and Dearest returns the greatest price with a rate, with no condition. -/
import Derived.Test.YtfobgmecnlehaaaDeDeVDfVDf
import Derived.Test.YtfobgmecnlehaaaDg
set_option linter.unusedVariables false
set_option linter.unusedSimpArgs false
set_option maxRecDepth 100000
namespace Go.Proofs.Ytfobgmecnlehaaa
open Go.Lg Go.ChangeShapes Go.WideShapes Go.ChangeAt Go.RowKit
attribute [local irreducible] bodyH funS
theorem l7_does (a : Act) (p b : Int) (hp : (Lit.int .i64 p).wf = true) (hb : (Lit.int .u16 b).wf = true) : Does Try.prog 7 false (SV.denL [a.sv, i6 p, .int .u16 b]) (.sc (.bool true)) := by
  have hh := l7_true a p b (u16_of hb) (wf_i64 hp)
  unfold l7G at hh
  exact funH_does csR_sound nilS_x nilS_ic mixed hh
theorem l7_lifted (os : Os) (started : os.Started) (H : Type) (enc : TypeId × Value → H) :
    ReturnsInHanded {} Try.checked os 7 .any (Rows.scaleCheaperSpec.pre6 enc Try.prog Try.f7 Rows.scaleCheaperRow.domain false) (Rows.scaleCheaperSpec.post enc Try.prog Try.f7 false true false false) := by
  refine returnsInHanded_of_change (C := Try.checked) own started (by kernel_rfl) Try.func7
    (ChangeSpec.witness6 (enc := enc) (C := Try.checked) false ⟨#[], #[.agg #[.int .i64 0, .int .i64 0, .int .i64 0, .int .i64 0, .int .i64 0, .int .i64 0], .int .i64 0, .int .u16 0], []⟩ 8 (by kernel_rfl) (by kernel_rfl) (by kernel_rfl) (by kernel_rfl)) ?_
  intro W base args ds gs before hval0 hW hcnd _
  have hval : ∀ (j : Nat) t v, Try.f7.params[j]? = some t → args[j]? = some v → Value.okWide Try.prog W .any base t v := hval0
  have hW0 : DataW.Whole enc Try.prog Try.f7.params.toList Rows.scaleCheaperSpec.vars false W args.toList ds gs before := hW
  obtain ⟨p, q, hA0, hV, rfl, hfz, hnd⟩ := hW
  have hA : DataW.TrodAll enc Try.prog W 0 (fun _ => true) true Try.f7.params.toList args.toList ds p := hA0
  rw [Try.params7] at hA hval
  obtain ⟨v0, v1, v2, d0, d1, d2, p0, p1, p2, rfl, rfl, rfl, h0, h1, h2⟩ := trodAll_three hA
  obtain ⟨rfl, rfl⟩ := trodVars_none hV
  obtain ⟨a, hr0⟩ := read_act (hval 0 23 v0 rfl rfl) h0
  obtain ⟨b, rfl, rfl, rfl, wb⟩ := open_int Try.underlying3 (hval 1 3 v1 rfl rfl) h1
  obtain ⟨c, rfl, rfl, rfl, wc⟩ := open_int Try.underlying52 (hval 2 52 v2 rfl rfl) h2
  have hd := l7_does a b c wb wc
  refine law_calls laid (f := 7) (fn := Try.f7) (tb := 4) (by
    rw [Try.params7]
    intro t ht
    simp at ht
    rcases ht with rfl | rfl | rfl <;> exact rdb _ (by kernel_rfl)) rfl (by kernel_rfl) Try.underlying4 rfl hW0 ?_ hd
  exact RelL.mk hr0 (RelL.mk (.sc _) (RelL.mk (.sc _) RelL.mk_nil))
theorem scale_cheaper_holds : Rows.ScaleCheaperSaid :=
  OpenClaim.holds_of_wide 7 Try.f7 rfl rfl rfl rfl rfl rfl rfl ⟨rfl, rfl, rfl, rfl, rfl⟩ rfl rfl rfl rfl rfl (by kernel_rfl) Try.func7 (by kernel_rfl)
    (of_decide_eq_true (by kernel_rfl)) (by unfold Func.isWrapper; first | (rw [if_pos (by decide +kernel)]; kernel_rfl) | (rw [if_neg (by decide +kernel)]; exact ⟨rfl, rfl⟩))
    (fun os started H enc _ => l7_lifted os started H enc)
end Go.Proofs.Ytfobgmecnlehaaa
