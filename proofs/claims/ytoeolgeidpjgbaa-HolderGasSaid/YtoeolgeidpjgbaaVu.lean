/- The statement HolderGas of layer 5 (holder) holds of the code at its commit: for all lifts, spans and remainders that there are, the law returns true. That what is held grows with the height and not with the warmth, and what each foot adds, is proved in Vq. There are no conditions but the ones that the statement has. -/
import Derived.Test.YtoeolgeidpjgbaaVqVrVsVt
import Derived.Test.YtoeolgeidpjgbaaVl
set_option linter.unusedVariables false
set_option maxRecDepth 100000
namespace Go.Proofs.Ytoeolgeidpjgbaa
open Go.Lg Go.ChangeShapes Go.WideShapes Go.ChangeAt Go.RowKit
attribute [local irreducible] funS
variable {H : Type} {enc : TypeId × Value → H} {w : World}

theorem u16_wf {n : Int} (h : (Lit.int .u16 n).wf = true) : 0 ≤ n ∧ n ≤ 65535 := by
  simpa [Lit.wf, IntKind.min, IntKind.max, IntKind.signed, IntKind.bits] using h
theorem read65 : Try.prog.readableRec 65 = true ∧ 65 < Try.prog.types.size := ⟨by kernel_rfl, of_decide_eq_true (by kernel_rfl)⟩
theorem gas_lifted (os : Os) (started : os.Started) (H : Type) (enc : TypeId × Value → H) :
    ReturnsInHanded {} Try.checked os 12 .any (Rows.holderGasSpec.pre6 enc Try.prog Try.f12 Rows.holderGasRow.domain false) (Rows.holderGasSpec.post enc Try.prog Try.f12 false true false false) := by
  refine returnsInHanded_of_change (C := Try.checked) own started (by kernel_rfl) Try.func12
    (ChangeSpec.witness6 (enc := enc) (C := Try.checked) false ⟨#[], #[.slice none 0 0, .agg #[.int .i64 0, .int .i64 0], .agg #[.int .i64 0, .int .i64 0], .int .u16 0, .int .u16 0], []⟩ 8 (by kernel_rfl) (by kernel_rfl) (by kernel_rfl) (by kernel_rfl)) ?_
  intro W base args ds gs before hval0 hW hcnd _
  have hval : ∀ (j : Nat) t v, Try.f12.params[j]? = some t → args[j]? = some v → Value.okWide Try.prog W .any base t v := hval0
  have hW0 : DataW.Whole enc Try.prog Try.f12.params.toList Rows.holderGasSpec.vars false W args.toList ds gs before := hW
  obtain ⟨p, q, hA0, hV, rfl, hfz, hnd⟩ := hW
  have hA : DataW.TrodAll enc Try.prog W 0 (fun _ => true) true Try.f12.params.toList args.toList ds p := hA0
  rw [Try.params12] at hA hval
  obtain ⟨v0, vs, d0, ds1, p0, q1, ea, rfl, rfl, h0, r1⟩ := trodAll_cons hA
  obtain ⟨v1, vs, d1, ds2, p1, q2, rfl, rfl, rfl, h1, r2⟩ := trodAll_cons r1
  obtain ⟨v2, vs, d2, ds3, p2, q3, rfl, rfl, rfl, h2, r3⟩ := trodAll_cons r2
  obtain ⟨v3, vs, d3, ds4, p3, q4, rfl, rfl, rfl, h3, r4⟩ := trodAll_cons r3
  obtain ⟨v4, vs, d4, ds5, p4, q5, rfl, rfl, rfl, h4, r5⟩ := trodAll_cons r4
  obtain ⟨rfl, rfl, rfl⟩ := trodAll_nil r5
  obtain rfl : args = #[v0, v1, v2, v3, v4] := by cases args; simp_all
  obtain ⟨rfl, rfl⟩ := trodVars_none hV
  obtain ⟨ms, hr0⟩ := read_lifts (hval 0 22 v0 rfl rfl) h0
  obtain ⟨m1, hr1⟩ := read_span (hval 1 24 v1 rfl rfl) h1
  obtain ⟨m2, hr2⟩ := read_span (hval 2 24 v2 rfl rfl) h2
  obtain ⟨a, rfl, rfl, rfl, wa⟩ := open_int Try.underlying65 (hval 3 65 v3 rfl rfl) h3
  obtain ⟨b, rfl, rfl, rfl, wb⟩ := open_int Try.underlying65 (hval 4 65 v4 rfl rfl) h4
  have hd := gas_does ms.length (fun i => (ms.getD i (0, 0)).1) (fun i => (ms.getD i (0, 0)).2) m1.1 m1.2 m2.1 m2.2 a b (u16_wf wa) (u16_wf wb)
  refine law_calls laid (f := 12) (fn := Try.f12) (tb := 4) (by
    rw [Try.params12]
    intro t ht
    simp at ht
    rcases ht with rfl | rfl | rfl | rfl
    · exact read22
    · exact read24
    · exact read65) rfl (by kernel_rfl) Try.underlying4 rfl hW0 ?_ hd
  refine RelL.mk ?_ (RelL.mk hr1 (RelL.mk hr2 (RelL.mk (.sc _) (RelL.mk (.sc _) RelL.mk_nil))))
  rw [lifts_den]
  exact hr0

theorem holder_gas_holds : Rows.HolderGasSaid :=
  OpenClaim.holds_of_wide 12 Try.f12 rfl rfl rfl rfl rfl rfl rfl ⟨rfl, rfl, rfl, rfl, rfl⟩ rfl rfl rfl rfl rfl (by kernel_rfl) Try.func12 (by kernel_rfl)
    (of_decide_eq_true (by kernel_rfl)) (by unfold Func.isWrapper; first | (rw [if_pos (by decide +kernel)]; kernel_rfl) | (rw [if_neg (by decide +kernel)]; exact ⟨rfl, rfl⟩))
    (fun os started H enc _ => gas_lifted os started H enc)
end Go.Proofs.Ytoeolgeidpjgbaa
