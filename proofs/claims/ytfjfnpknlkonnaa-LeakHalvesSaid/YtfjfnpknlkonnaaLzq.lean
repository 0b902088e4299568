/- For every search and every number, what Next of package leak returns is the hole that halves the suspects best: with one result just as many are left as it says, with none more, no other hole leaves fewer, each suspect stays so by one result at least; and the results that the document fixes hold (LeakHalves). No condition: for all inputs. -/
import Derived.Test.YtfjfnpknlkonnaaRows
import Derived.Test.YtfjfnpknlkonnaaLzoLzoVLzp
import Derived.Test.YtfjfnpknlkonnaaLzm
set_option linter.unusedVariables false
set_option linter.unusedSimpArgs false
set_option maxRecDepth 100000
namespace Go.Proofs.Ytfjfnpknlkonnaa
open Go.Lg Go.ChangeShapes Go.WideShapes Go.ChangeAt Go.RowKit
attribute [local irreducible] funS bodyH
theorem csF_ok : SoundS Try.prog csF := ctrsF_sound (ctrs_sound (by
  intro x hx
  simp only [List.mem_cons, List.not_mem_nil, or_false] at hx
  rcases hx with rfl | rfl
  · exact ssp_ok
  · exact has_ok)) (by intro x hx; simp at hx; subst hx; exact wth_ok)
theorem aft_ok : aftC.Ok Try.prog := ⟨by kernel_rfl, fun p hp => by
  have hh := aft_true hp
  unfold aftG at hh
  exact stH_ok csF_ok nilS_x nilS_ic mixed hh⟩
theorem csH_ok : SoundS Try.prog csH := ctrsQ_sound (ctrs_sound (by
  intro x hx
  simp only [List.mem_cons, List.not_mem_nil, or_false] at hx
  rcases hx with rfl | rfl | rfl | rfl | rfl
  · exact gre_ok
  · exact alive_ok
  · exact ssp_ok
  · exact next_ok (by kernel_rfl) fun _ _ => nex_does
  · exact se_ok)) (by intro x hx; simp at hx; subst hx; exact aft_ok)
theorem halves_does {ma wr : Int} {cl ho : Dl} {o : Int} (h1 : okD cl) (h2 : okD ho) (h3 : 0 ≤ o ∧ o ≤ 255) : Does Try.prog 7 false (SV.denL [sqV ma wr cl ho, .int .u8 o]) (.sc (.bool true)) := by
  have hh := hal_true (ma := ma) (wr := wr) h1 h2 h3
  unfold halG at hh
  exact funH_does csH_ok nilS_x nilS_ic mixed hh
theorem wf_u8 {z : Int} (h : (Lit.int .u8 z).wf = true) : 0 ≤ z ∧ z ≤ 255 := by
  have h : (decide (IntKind.min .u8 ≤ z) && decide (z ≤ IntKind.max .u8)) = true := h
  simp only [Bool.and_eq_true, decide_eq_true_eq] at h
  have e1 : IntKind.min .u8 = 0 := by decide
  have e2 : IntKind.max .u8 = 255 := by decide
  rw [e1, e2] at h
  exact h
theorem read5 : Try.prog.readableRec 5 = true ∧ 5 < Try.prog.types.size := ⟨by kernel_rfl, of_decide_eq_true (by kernel_rfl)⟩
theorem halves_lifted (os : Os) (started : os.Started) (H : Type) (enc : TypeId × Value → H) :
    ReturnsInHanded {} Try.checked os 7 .any (Rows.leakHalvesSpec.pre6 enc Try.prog Try.f7 Rows.leakHalvesRow.domain false) (Rows.leakHalvesSpec.post enc Try.prog Try.f7 false true false false) := by
  refine returnsInHanded_of_change (C := Try.checked) own started (by kernel_rfl) Try.func7
    (ChangeSpec.witness6 (enc := enc) (C := Try.checked) false ⟨#[], #[.agg #[.int .i64 0, .int .i64 0, .slice none 0 0, .slice none 0 0], .int .u8 0], []⟩ 8 (by kernel_rfl) (by kernel_rfl) (by kernel_rfl) (by kernel_rfl)) ?_
  intro W base args ds gs before hval0 hW hcnd _
  have hval : ∀ (j : Nat) t v, Try.f7.params[j]? = some t → args[j]? = some v → Value.okWide Try.prog W .any base t v := hval0
  have hW0 : DataW.Whole enc Try.prog Try.f7.params.toList Rows.leakHalvesSpec.vars false W args.toList ds gs before := hW
  obtain ⟨p, q, hA0, hV, rfl, hfz, hnd⟩ := hW
  have hA : DataW.TrodAll enc Try.prog W 0 (fun _ => true) true Try.f7.params.toList args.toList ds p := hA0
  rw [Try.params7] at hA hval
  obtain ⟨v0, v1, d0, d1, p0, p1, rfl, rfl, rfl, h0, h1⟩ := trodAll_two hA
  obtain ⟨rfl, rfl⟩ := trodVars_none hV
  obtain ⟨ma, wr, cl, ho, o1, o2, hr0⟩ := read_search (hval 0 24 v0 rfl rfl) h0
  obtain ⟨a, rfl, rfl, rfl, wa⟩ := open_int Try.underlying5 (hval 1 5 v1 rfl rfl) h1
  have hd := halves_does (ma := ma) (wr := wr) (o := a) o1 o2 (wf_u8 wa)
  refine law_calls laid (f := 7) (fn := Try.f7) (tb := 4) (by
    rw [Try.params7]
    intro t ht
    simp at ht
    rcases ht with rfl | rfl
    · exact read24
    · exact read5) rfl (by kernel_rfl) Try.underlying4 rfl hW0 ?_ hd
  exact RelL.mk hr0 (RelL.mk (.sc _) RelL.mk_nil)
theorem leak_halves_holds : Rows.LeakHalvesSaid :=
  OpenClaim.holds_of_wide 7 Try.f7 rfl rfl rfl rfl rfl rfl rfl ⟨rfl, rfl, rfl, rfl, rfl⟩ rfl rfl rfl rfl rfl (by kernel_rfl) Try.func7 (by kernel_rfl)
    (of_decide_eq_true (by kernel_rfl)) (by unfold Func.isWrapper; first | (rw [if_pos (by decide +kernel)]; kernel_rfl) | (rw [if_neg (by decide +kernel)]; exact ⟨rfl, rfl⟩))
    (fun os started H enc _ => halves_lifted os started H enc)
end Go.Proofs.Ytfjfnpknlkonnaa
