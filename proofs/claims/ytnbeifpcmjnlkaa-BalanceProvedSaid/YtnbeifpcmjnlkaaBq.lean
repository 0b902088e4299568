/- For every plant, every flow and either end: the places that are told prove what they are told for. Plants of more than 20 flows are let through as the statement does; no further condition. -/
import Derived.Test.YtnbeifpcmjnlkaaRows
import Derived.Test.YtnbeifpcmjnlkaaBjBjVBkBlBo
import Derived.Test.YtnbeifpcmjnlkaaBp
set_option linter.unusedVariables false
set_option linter.unusedSimpArgs false
set_option maxRecDepth 100000
namespace Go.Proofs.Ytnbeifpcmjnlkaa
open Go.Lg Go.ChangeShapes Go.WideShapes Go.ChangeAt Go.RowKit
attribute [local irreducible] bodyH
variable {H : Type} {enc : TypeId × Value → H} {w : World}
theorem csPr_ok : SoundS Try.prog csPr := ctrs_sound (by
  intro x hx
  simp only [List.mem_cons, List.not_mem_nil, or_false] at hx
  rcases hx with rfl | rfl | rfl | rfl | rfl | rfl | rfl
  · exact awa_ok
  · exact wro_ok
  · exact tgh_ok
  · exact why_ok
  · exact rPl_ok
  · exact sum_ok
  · exact spa_ok)
theorem prv_does (p : Pl) (i : Int) (b : Bool) : Does Try.prog 7 false (SV.denL [p.sv, i6 i, .bool b]) (.sc (.bool true)) := by
  cases b
  · have hh := prv_f (p := p) (i := i)
    unfold prvf prvG at hh
    exact funH_does csPr_ok nil_x nil_ic mixed hh
  · have hh := prv_t (p := p) (i := i)
    unfold prvt prvG at hh
    exact funH_does csPr_ok nil_x nil_ic mixed hh
theorem prv_lifted (os : Os) (started : os.Started) (H : Type) (enc : TypeId × Value → H) :
    ReturnsInHanded {} Try.checked os 7 .any (Rows.balanceProvedSpec.pre6 enc Try.prog Try.f7 Rows.balanceProvedRow.domain false) (Rows.balanceProvedSpec.post enc Try.prog Try.f7 false true false false) := by
  refine returnsInHanded_of_change (C := Try.checked) own_ started (by kernel_rfl) Try.func7
    (ChangeSpec.witness6 (enc := enc) (C := Try.checked) false ⟨#[], #[.agg #[.int .i64 0, .slice none 0 0], .int .i64 0, .bool false], []⟩ 8 (by kernel_rfl) (by kernel_rfl) (by kernel_rfl) (by kernel_rfl)) ?_
  intro W base args ds gs before hval0 hW hcnd _
  have hval : ∀ (j : Nat) t v, Try.f7.params[j]? = some t → args[j]? = some v → Value.okWide Try.prog W .any base t v := hval0
  have hW0 : DataW.Whole enc Try.prog Try.f7.params.toList Rows.balanceProvedSpec.vars false W args.toList ds gs before := hW
  obtain ⟨p, q, hA0, hV, rfl, hfz, hnd⟩ := hW
  have hA : DataW.TrodAll enc Try.prog W 0 (fun _ => true) true Try.f7.params.toList args.toList ds p := hA0
  rw [Try.params7] at hA hval
  obtain ⟨v0, v1, v2, d0, d1, d2, p0, p1, p2, rfl, rfl, rfl, h0, h1, h2⟩ := trodAll_three hA
  obtain ⟨rfl, rfl⟩ := trodVars_none hV
  obtain ⟨x, hr0⟩ := read_plant (hval 0 24 v0 rfl rfl) h0
  obtain ⟨z, rfl, rfl, rfl, wz⟩ := open_int Try.underlying3 (hval 1 3 v1 rfl rfl) h1
  obtain ⟨b, rfl, rfl, rfl⟩ := open_bool Try.underlying4 (hval 2 4 v2 rfl rfl) h2
  have hd := prv_does x z b
  refine law_calls laid (f := 7) (fn := Try.f7) (tb := 4) (by
    rw [Try.params7]
    intro t ht
    simp at ht
    rcases ht with rfl | rfl | rfl
    · exact read24
    · exact read3
    · exact read4) rfl (by kernel_rfl) Try.underlying4 rfl hW0 ?_ hd
  exact RelL.mk hr0 (RelL.mk (.sc _) (RelL.mk (.sc _) RelL.mk_nil))

theorem balance_proved_holds : Rows.BalanceProvedSaid :=
  OpenClaim.holds_of_wide 7 Try.f7 rfl rfl rfl rfl rfl rfl rfl ⟨rfl, rfl, rfl, rfl, rfl⟩ rfl rfl rfl rfl rfl (by kernel_rfl) Try.func7 (by kernel_rfl)
    (of_decide_eq_true (by kernel_rfl)) (by unfold Func.isWrapper; first | (rw [if_pos (by decide +kernel)]; kernel_rfl) | (rw [if_neg (by decide +kernel)]; exact ⟨rfl, rfl⟩))
    (fun os started H enc _ => prv_lifted os started H enc)
end Go.Proofs.Ytnbeifpcmjnlkaa
