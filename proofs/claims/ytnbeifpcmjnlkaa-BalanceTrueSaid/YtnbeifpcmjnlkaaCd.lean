import Derived.Test.YtnbeifpcmjnlkaaRows
import Derived.Test.YtnbeifpcmjnlkaaCaCaVCbCbVCc
import Derived.Test.YtnbeifpcmjnlkaaBp
set_option linter.unusedVariables false
set_option linter.unusedSimpArgs false
set_option maxRecDepth 100000
namespace Go.Proofs.Ytnbeifpcmjnlkaa
open Go.Lg Go.ChangeShapes Go.WideShapes Go.ChangeAt Go.RowKit
attribute [local irreducible] bodyH
variable {H : Type} {enc : TypeId × Value → H} {w : World}
theorem csEn_ok : SoundS Try.prog csEn := ctrsQ_sound (ctrs_sound (by
  intro x hx
  simp only [List.mem_cons, List.not_mem_nil, or_false] at hx
  rcases hx with rfl | rfl | rfl | rfl
  · exact awa_ok
  · exact tgh_ok
  · exact rPl_ok
  · exact spa_ok)) (by intro x hx; simp at hx; subst hx; exact endQ_ok)
theorem en_does (p : Pl) (b : Int) (hb : 0 ≤ b ∧ b < 256) : Does Try.prog 6 false (SV.denL [p.sv, u8 b]) (.sc (.bool true)) := by
  have hh := en_true (p := p) hb
  unfold enG at hh
  exact funH_does csEn_ok nil_x nil_ic mixed hh
theorem u8_in {a : Int} (h : (Lit.int .u8 a).wf = true) : 0 ≤ a ∧ a < 256 := by
  simp only [Lit.wf, Bool.and_eq_true, decide_eq_true_eq, IntKind.min, IntKind.max, IntKind.signed, IntKind.bits, Bool.false_eq_true, if_false] at h
  omega
theorem en_lifted (os : Os) (started : os.Started) (H : Type) (enc : TypeId × Value → H) :
    ReturnsInHanded {} Try.checked os 6 .any (Rows.balanceEndsSpec.pre6 enc Try.prog Try.f6 Rows.balanceEndsRow.domain false) (Rows.balanceEndsSpec.post enc Try.prog Try.f6 false true false false) := by
  refine returnsInHanded_of_change (C := Try.checked) own_ started (by kernel_rfl) Try.func6
    (ChangeSpec.witness6 (enc := enc) (C := Try.checked) false ⟨#[], #[.agg #[.int .i64 0, .slice none 0 0], .int .u8 0], []⟩ 8 (by kernel_rfl) (by kernel_rfl) (by kernel_rfl) (by kernel_rfl)) ?_
  intro W base args ds gs before hval0 hW hcnd _
  have hval : ∀ (j : Nat) t v, Try.f6.params[j]? = some t → args[j]? = some v → Value.okWide Try.prog W .any base t v := hval0
  have hW0 : DataW.Whole enc Try.prog Try.f6.params.toList Rows.balanceEndsSpec.vars false W args.toList ds gs before := hW
  obtain ⟨p, q, hA0, hV, rfl, hfz, hnd⟩ := hW
  have hA : DataW.TrodAll enc Try.prog W 0 (fun _ => true) true Try.f6.params.toList args.toList ds p := hA0
  rw [Try.params6] at hA hval
  obtain ⟨v0, v1, d0, d1, p0, p1, rfl, rfl, rfl, h0, h1⟩ := trodAll_two hA
  obtain ⟨rfl, rfl⟩ := trodVars_none hV
  obtain ⟨x, hr0⟩ := read_plant (hval 0 24 v0 rfl rfl) h0
  obtain ⟨b, rfl, rfl, rfl, wb⟩ := open_int Try.underlying5 (hval 1 5 v1 rfl rfl) h1
  have hd := en_does x b (u8_in wb)
  refine law_calls laid (f := 6) (fn := Try.f6) (tb := 4) (by
    rw [Try.params6]
    intro t ht
    simp at ht
    rcases ht with rfl | rfl
    · exact read24
    · exact read5) rfl (by kernel_rfl) Try.underlying4 rfl hW0 ?_ hd
  exact RelL.mk hr0 (RelL.mk (.sc _) RelL.mk_nil)

theorem balance_ends_holds : Rows.BalanceEndsSaid :=
  OpenClaim.holds_of_wide 6 Try.f6 rfl rfl rfl rfl rfl rfl rfl ⟨rfl, rfl, rfl, rfl, rfl⟩ rfl rfl rfl rfl rfl (by kernel_rfl) Try.func6 (by kernel_rfl)
    (of_decide_eq_true (by kernel_rfl)) (by unfold Func.isWrapper; first | (rw [if_pos (by decide +kernel)]; kernel_rfl) | (rw [if_neg (by decide +kernel)]; exact ⟨rfl, rfl⟩))
    (fun os started H enc _ => en_lifted os started H enc)
end Go.Proofs.Ytnbeifpcmjnlkaa
