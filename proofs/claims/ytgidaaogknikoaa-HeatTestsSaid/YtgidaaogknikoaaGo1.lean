/- HeatTests: for every decree, list of tests, hour, number of stations, period and span of hours the law returns true, and leaves its arguments as they were. No condition. -/
import Derived.Test.YtgidaaogknikoaaRows
import Derived.Test.YtgidaaogknikoaaGmGmVGn
set_option linter.unusedVariables false
set_option linter.unusedSimpArgs false
set_option maxRecDepth 100000
namespace Go.Proofs.Ytgidaaogknikoaa
open Go.Lg Go.ChangeShapes Go.WideShapes Go.ChangeAt Go.RowKit
attribute [local irreducible] bodyH funS
variable {H : Type} {enc : TypeId × Value → H} {w : World}
theorem ht_true (d : De) (T : Tl) (h st p lo hi : Int) : htG d T h st p lo hi := by
  rw [htG_vc]
  simp only [rE, tt3, tt4, tt5, tt13, tt14, and_true, true_and, Nat.zero_lt_one, implies_true, and_self, not_true_eq_false, false_implies, not_false_eq_true, true_implies]
  intro h1
  have hn : T.n ≤ 1000 := by omega
  exact ⟨hn, hn, hn, hn, hn, hn, fun _ => ⟨fun _ _ => hn, fun _ => hn⟩, fun _ => hn⟩
theorem csT_ok : SoundS Try.prog csT := ctrs_sound (by
  intro x hx
  simp only [List.mem_cons, List.not_mem_nil, or_false] at hx
  rcases hx with rfl | rfl | rfl | rfl | rfl | rfl | rfl | rfl | rfl
  · exact ke_ok
  · exact rke_ok
  · exact de_ok
  · exact rdu_ok
  · exact wo_ok
  · exact rwo_ok
  · exact mi_ok
  · exact rmi_ok
  · exact alive_ok)
theorem ht_does (d : De) (T : Tl) (h st p lo hi : Int) : Does Try.prog 4 false (SV.denL [d.sv, T.sv, i6 h, i6 st, i6 p, .agg [i6 lo, i6 hi]]) (.sc (.bool true)) := by
  have hh := ht_true d T h st p lo hi
  unfold htG at hh
  exact funH_does csT_ok (wrX_sound noX_sound) nilS_ic mixed hh
theorem ht_lifted (os : Os) (started : os.Started) (H : Type) (enc : TypeId × Value → H) :
    ReturnsInHanded {} Try.checked os 4 .any (Rows.heatTestsSpec.pre6 enc Try.prog Try.f4 Rows.heatTestsRow.domain false) (Rows.heatTestsSpec.post enc Try.prog Try.f4 false true false false) := by
  refine returnsInHanded_of_change (C := Try.checked) own started (by kernel_rfl) Try.func4
    (ChangeSpec.witness6 (enc := enc) (C := Try.checked) false ⟨#[], #[.agg #[.int .i64 0, .int .i64 0, .int .i64 0, .int .i64 0], .slice none 0 0, .int .i64 0, .int .i64 0, .int .i64 0, .agg #[.int .i64 0, .int .i64 0]], []⟩ 8 (by kernel_rfl) (by kernel_rfl) (by kernel_rfl) (by kernel_rfl)) ?_
  intro W base args ds gs before hval0 hW hcnd _
  have hval : ∀ (j : Nat) t v, Try.f4.params[j]? = some t → args[j]? = some v → Value.okWide Try.prog W .any base t v := hval0
  have hW0 : DataW.Whole enc Try.prog Try.f4.params.toList Rows.heatTestsSpec.vars false W args.toList ds gs before := hW
  obtain ⟨p, q, hA0, hV, rfl, hfz, hnd⟩ := hW
  have hA : DataW.TrodAll enc Try.prog W 0 (fun _ => true) true Try.f4.params.toList args.toList ds p := hA0
  rw [Try.params4] at hA hval
  obtain ⟨v0, v1, v2, v3, v4, v5, d0, d1, d2, d3, d4, d5, p0, p1, p2, p3, p4, p5, rfl, rfl, rfl, h0, h1, h2, h3, h4, h5⟩ := trodAll_six hA
  obtain ⟨rfl, rfl⟩ := trodVars_none hV
  obtain ⟨dd, _, _, _, _, hr0⟩ := read_decree (hval 0 36 v0 rfl rfl) h0
  obtain ⟨T, _, hr1⟩ := read_tests (hval 1 37 v1 rfl rfl) h1
  obtain ⟨a, rfl, rfl, rfl, wa⟩ := open_int Try.underlying3 (hval 2 3 v2 rfl rfl) h2
  obtain ⟨b, rfl, rfl, rfl, wb⟩ := open_int Try.underlying3 (hval 3 3 v3 rfl rfl) h3
  obtain ⟨c, rfl, rfl, rfl, wc⟩ := open_int Try.underlying3 (hval 4 3 v4 rfl rfl) h4
  obtain ⟨lo, hi, _, _, hr5⟩ := read_span (hval 5 26 v5 rfl rfl) h5
  have hd := ht_does dd T a b c lo hi
  refine law_calls laid (f := 4) (fn := Try.f4) (tb := 4) (by
    rw [Try.params4]
    intro t ht
    simp at ht
    rcases ht with rfl | rfl | rfl | rfl
    · exact read36
    · exact read37
    · exact read3
    · exact read26) rfl (by kernel_rfl) Try.underlying4 rfl hW0 ?_ hd
  exact RelL.mk hr0 (RelL.mk hr1 (RelL.mk (.sc _) (RelL.mk (.sc _) (RelL.mk (.sc _) (RelL.mk hr5 RelL.mk_nil)))))
theorem heat_tests_holds : Rows.HeatTestsSaid :=
  OpenClaim.holds_of_wide 4 Try.f4 rfl rfl rfl rfl rfl rfl rfl ⟨rfl, rfl, rfl, rfl, rfl⟩ rfl rfl rfl rfl rfl (by kernel_rfl) Try.func4 (by kernel_rfl)
    (of_decide_eq_true (by kernel_rfl)) (by unfold Func.isWrapper; first | (rw [if_pos (by decide +kernel)]; kernel_rfl) | (rw [if_neg (by decide +kernel)]; exact ⟨rfl, rfl⟩))
    (fun os started H enc _ => ht_lifted os started H enc)
end Go.Proofs.Ytgidaaogknikoaa
