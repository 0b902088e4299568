/- BoxEnds: where the least and the greatest loads come outright, Run and Beds answer the ends of the spans. -/
import Derived.Test.YtiighndfenlbdaaRows
import Derived.Test.YtiighndfenlbdaaEs
set_option linter.unusedVariables false
set_option linter.unusedSimpArgs false
set_option maxRecDepth 100000
namespace Go.Proofs.Ytiighndfenlbdaa
open Go.Lg Go.ChangeShapes Go.WideShapes Go.ChangeAt Go.RowKit
attribute [local irreducible] bodyH
theorem good_cs : SoundS Try.prog goodCS := ctrs_sound (by
 intro x hx
 simp only [List.mem_cons, List.not_mem_nil, or_false] at hx
 rcases hx with rfl | rfl | rfl | rfl | rfl
 ·exact gr_ok
 ·exact alv_ok
 ·exact ruC_ok
 ·exact bdC_ok
 ·exact spn_ok)
theorem ends_does (T : Tn) (n : Nat) (w : Nat → Bool) : Does Try.prog 8 false (SV.denL [tV T, twL n w]) (.sc (.bool true)) := by
 by_cases h : chE T n w = 0
 ·have hT : okT T := Classical.byContradiction fun hn => by have := (ch_bad (n := n) (w := w) hn).2; omega
  have hl : n = T.nl := Classical.byContradiction fun hn => by have := (ch_len (w := w) hT hn).2; omega
  have hf : ¬ fwA T w < n := fun hn => by have := (ch_fw hT hl hn).2; omega
  subst hl
  have hd := fw_d (T := T) (w := w)
  have hh := eG_true (T := T) (w := w) ⟨hT, by omega⟩
  unfold eGG at hh
  exact funH_does good_cs nil_x nil_ic mixed hh
 ·have hh := eB_true h
  unfold eBG at hh
  exact funH_does bad_cs nil_x nil_ic mixed hh
theorem ends_lifted (os : Os) (started : os.Started) (H : Type) (enc : TypeId × Value → H) :
  ReturnsInHanded {} Try.checked os 8 .any (Rows.boxEndsSpec.pre6 enc Try.prog Try.f8 Rows.boxEndsRow.domain false) (Rows.boxEndsSpec.post enc Try.prog Try.f8 false true false false) := by
 refine returnsInHanded_of_change (C := Try.checked) own started (by kernel_rfl) Try.func8
  (ChangeSpec.witness6 (enc := enc) (C := Try.checked) false ⟨#[], #[.agg #[.slice none 0 0, .int .i64 0, .int .i64 0, .int .i64 0, .int .i64 0, .int .i64 0, .slice none 0 0], .slice none 0 0], []⟩ 8 (by kernel_rfl) (by kernel_rfl) (by kernel_rfl) (by kernel_rfl)) ?_
 intro W base args ds gs before hval0 hW hcnd _
 have hval : ∀ (j : Nat) t v, Try.f8.params[j]? = some t → args[j]? = some v → Value.okWide Try.prog W .any base t v := hval0
 have hW0 : DataW.Whole enc Try.prog Try.f8.params.toList Rows.boxEndsSpec.vars false W args.toList ds gs before := hW
 obtain ⟨p, q, hA0, hV, rfl, hfz, hnd⟩ := hW
 have hA : DataW.TrodAll enc Try.prog W 0 (fun _ => true) true Try.f8.params.toList args.toList ds p := hA0
 rw [Try.params8] at hA hval
 obtain ⟨v0, v1, d0, d1, p0, p1, rfl, rfl, rfl, h0, h1⟩ := trodAll_two hA
 obtain ⟨rfl, rfl⟩ := trodVars_none hV
 obtain ⟨T, hr0⟩ := read_train (hval 0 25 v0 rfl rfl) h0
 obtain ⟨n, t, hr1⟩ := read_turns (hval 1 26 v1 rfl rfl) h1
 have hd := ends_does T n t
 refine law_calls laid (f := 8) (fn := Try.f8) (tb := 4) (by
  rw [Try.params8]
  intro t ht
  simp at ht
  rcases ht with rfl | rfl
  ·exact read25
  ·exact read26) rfl (by kernel_rfl) Try.underlying4 rfl hW0 ?_ hd
 exact RelL.mk hr0 (RelL.mk hr1 RelL.mk_nil)
theorem box_ends_holds : Rows.BoxEndsSaid :=
 OpenClaim.holds_of_wide 8 Try.f8 rfl rfl rfl rfl rfl rfl rfl ⟨rfl, rfl, rfl, rfl, rfl⟩ rfl rfl rfl rfl rfl (by kernel_rfl) Try.func8 (by kernel_rfl)
  (of_decide_eq_true (by kernel_rfl)) (by unfold Func.isWrapper; first | (rw [if_pos (by decide +kernel)]; kernel_rfl) | (rw [if_neg (by decide +kernel)]; exact ⟨rfl, rfl⟩))
  (fun os started H enc _ => ends_lifted os started H enc)
end Go.Proofs.Ytiighndfenlbdaa
