/- Whatever the carts truly weighed, what they carried is within what is told, each end is as the document says, and the order of the carts makes no difference to all of them: proved for all lists of weighings, all lists of numbers and all turns, with no further condition. -/
import Derived.Test.YtifjghgejnkdoaaRows
import Derived.Test.YtifjghgejnkdoaaAwjIeIeVIf
import Derived.Test.YtifjghgejnkdoaaIg
set_option linter.unusedVariables false
set_option linter.unusedSimpArgs false
set_option maxRecDepth 100000
namespace Go.Proofs.Ytifjghgejnkdoaa
open Go.Lg Go.ChangeShapes Go.WideShapes Go.ChangeAt Go.RowKit
attribute [local irreducible] bodyH funS
theorem tc_does {W : Wl} {m : Nat} {b : Nat → Int} {t : Int} (hb : ∀ i, i < m → (Lit.int .u32 (b i)).wf = true) (ht : (Lit.int .u8 t).wf = true) : Does Try.prog 8 false (SV.denL [W.sv, uL .u32 m b, .int .u8 t]) (.sc (.bool true)) := by
  have hh := tc_true (W := W) (m := m) (b := b) (t := t) (fun i hi => u32_of (hb i hi)) (u8_of ht)
  unfold tcG at hh
  exact funH_does csT_sound nilS_x nilS_ic mixed hh
theorem tc_lifted (os : Os) (started : os.Started) (H : Type) (enc : TypeId × Value → H) :
    ReturnsInHanded {} Try.checked os 8 .any (Rows.tarCartsSpec.pre6 enc Try.prog Try.f8 Rows.tarCartsRow.domain false) (Rows.tarCartsSpec.post enc Try.prog Try.f8 false true false false) := by
  refine returnsInHanded_of_change (C := Try.checked) own started (by kernel_rfl) Try.func8
    (ChangeSpec.witness6 (enc := enc) (C := Try.checked) false ⟨#[], #[.slice none 0 0, .slice none 0 0, .int .u8 0], []⟩ 8 (by kernel_rfl) (by kernel_rfl) (by kernel_rfl) (by kernel_rfl)) ?_
  intro W base args ds gs before hval0 hW hcnd _
  have hval : ∀ (j : Nat) t v, Try.f8.params[j]? = some t → args[j]? = some v → Value.okWide Try.prog W .any base t v := hval0
  have hW0 : DataW.Whole enc Try.prog Try.f8.params.toList Rows.tarCartsSpec.vars false W args.toList ds gs before := hW
  obtain ⟨p, q, hA0, hV, rfl, hfz, hnd⟩ := hW
  have hA : DataW.TrodAll enc Try.prog W 0 (fun _ => true) true Try.f8.params.toList args.toList ds p := hA0
  rw [Try.params8] at hA hval
  obtain ⟨v0, v1, v2, d0, d1, d2, p0, p1, p2, rfl, rfl, rfl, h0, h1, h2⟩ := trodAll_three hA
  obtain ⟨rfl, rfl⟩ := trodVars_none hV
  obtain ⟨T, hr0⟩ := read_wl (hval 0 34 v0 rfl rfl) h0
  obtain ⟨m, b, hb, hr1⟩ := read_ul (K := .u32) Try.underlying58 Try.underlying62 (by kernel_rfl) (hval 1 58 v1 rfl rfl) h1
  obtain ⟨a, rfl, rfl, rfl, wa⟩ := open_int Try.underlying5 (hval 2 5 v2 rfl rfl) h2
  have hd := tc_does (W := T) (m := m) (b := b) (t := a) hb wa
  refine law_calls laid (f := 8) (fn := Try.f8) (tb := 4) (by
    rw [Try.params8]
    intro t ht
    simp at ht
    rcases ht with rfl | rfl | rfl <;> exact rdb _ (by kernel_rfl)) rfl (by kernel_rfl) Try.underlying4 rfl hW0 ?_ hd
  exact RelL.mk hr0 (RelL.mk hr1 (RelL.mk (.sc _) RelL.mk_nil))
theorem tar_carts_holds : Rows.TarCartsSaid :=
  OpenClaim.holds_of_wide 8 Try.f8 rfl rfl rfl rfl rfl rfl rfl ⟨rfl, rfl, rfl, rfl, rfl⟩ rfl rfl rfl rfl rfl (by kernel_rfl) Try.func8 (by kernel_rfl)
    (of_decide_eq_true (by kernel_rfl)) (by unfold Func.isWrapper; first | (rw [if_pos (by decide +kernel)]; kernel_rfl) | (rw [if_neg (by decide +kernel)]; exact ⟨rfl, rfl⟩))
    (fun os started H enc _ => tc_lifted os started H enc)
end Go.Proofs.Ytifjghgejnkdoaa
