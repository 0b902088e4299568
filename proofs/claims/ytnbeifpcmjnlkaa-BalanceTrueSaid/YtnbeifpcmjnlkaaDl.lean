/- For every places, steps, gas and wide, BalanceTrue returns true: whatever truly flowed by walks that end where they begin, within the Gas of each flow, is within the tight spans, there is a truth, and no truth comes before the first one. Conditions: none beyond those of the given statement. -/
import Derived.Test.YtnbeifpcmjnlkaaRows
import Derived.Test.YtnbeifpcmjnlkaaDjDkDm
set_option linter.unusedVariables false
set_option linter.unusedSimpArgs false
set_option maxRecDepth 100000
namespace Go.Proofs.Ytnbeifpcmjnlkaa
open Go.Lg Go.ChangeShapes Go.WideShapes Go.ChangeAt Go.RowKit
attribute [local irreducible] bodyH
variable {H : Type} {enc : TypeId × Value → H} {w : World}
theorem csT_ok : SoundS Try.prog csT := ctrs_sound (by
  intro x hx
  simp only [csT, List.mem_cons, List.not_mem_nil, or_false] at hx
  rcases hx with rfl | rfl | rfl | rfl | rfl | rfl
  · exact awa_ok
  · exact is_ok
  · exact tgh_ok
  · exact tru_ok
  · exact wro_ok
  · exact spa_ok)
theorem spa1_ok : SoundS Try.prog (ctrs [spaC]) := ctrs_sound (by intro x hx; simp at hx; subst hx; exact spa_ok)
theorem wkX_ok {K : Int} : SoundXH Try.prog noGhost γ0 (wkX K) := inl_sound (ys := none) spa1_ok noX_sound trivial nil_ic mixed
theorem wlk_ok : wlkC.Ok Try.prog := by
  refine ⟨by kernel_rfl, fun args k hk => ?_⟩
  simp only [wlkC] at hk
  split at hk
  · rename_i K n s m g l w
    obtain ⟨e1, e2, e3, hp, hk⟩ := hk
    refine ⟨fun v => ∃ z : Wk, okP (plK K z.f) ∧ v = outV K z, ?_, ?_⟩
    · rw [e1, e2, e3]
      have hh := wlk_true hp
      unfold wlkG at hh
      refine funR_does spa1_ok wkX_ok nil_ic mixed (R := fun v => ∃ z : Wk, okP (plK K z.f) ∧ v = outV K z) ?_ hh
      rintro X v ⟨z, hz, hs⟩
      exact ⟨_, ⟨z, hz, rfl⟩, hs⟩
    · rintro res ⟨z, hz, rfl⟩
      exact hk z hz
  · exact hk.elim
theorem tr_does {a : Int} {s g w : Us} (ha : 0 ≤ a ∧ a < 256) (hs : okU 256 s) (hg : okU 65536 g) (hw : okU 256 w) : Does Try.prog 5 false (SV.denL [.int .u8 a, s.s8, g.s16, w.s8]) (.sc (.bool true)) := by
  have hh := tr_true ha hs hg hw
  unfold truG' at hh
  exact funH_does csT_ok (ctrsR_sound noX_sound (by intro x hx; simp at hx; subst hx; exact wlk_ok)) nil_ic mixed hh
theorem trodAll_four {P : Program} {base : Nat} {spare : Nat → Bool} {held : Bool} {t t' t'' t3 : TypeId} {args : Array Value} {ds : List (DataW H)} {ps : List MemPlace} (h : DataW.TrodAll enc P w base spare held [t, t', t'', t3] args.toList ds ps) :
    ∃ v v' v'' v3 d d' d'' d3 p p' p'' p3, args = #[v, v', v'', v3] ∧ ds = [d, d', d'', d3] ∧ ps = p ++ p' ++ p'' ++ p3 ∧ DataW.Trod enc P w base spare held t v d p ∧ DataW.Trod enc P w base spare held t' v' d' p' ∧ DataW.Trod enc P w base spare held t'' v'' d'' p'' ∧ DataW.Trod enc P w base spare held t3 v3 d3 p3 := by
  obtain ⟨v, vs, d, ds', p, q, hargs, rfl, rfl, hd, hrest⟩ := trodAll_cons h
  obtain ⟨v', vs', d', ds'', p', q', rfl, rfl, rfl, hd', hrest'⟩ := trodAll_cons hrest
  obtain ⟨v'', vs'', d'', dsa, p'', q'', rfl, rfl, rfl, hd'', hrest''⟩ := trodAll_cons hrest'
  obtain ⟨v3, vs3, d3, ds3, p3, q3, rfl, rfl, rfl, hd3, hrest3⟩ := trodAll_cons hrest''
  obtain ⟨rfl, rfl, rfl⟩ := trodAll_nil hrest3
  exact ⟨v, v', v'', v3, d, d', d'', d3, p, p', p'', p3, by cases args; simp_all, rfl, by simp, hd, hd', hd'', hd3⟩
theorem u8_of2 {a : Int} (h : (Lit.int .u8 a).wf = true) : 0 ≤ a ∧ a < 256 := by
  simp only [Lit.wf, Bool.and_eq_true, decide_eq_true_eq, IntKind.min, IntKind.max, IntKind.signed, IntKind.bits, Bool.false_eq_true, if_false] at h
  omega
theorem tr_lifted (os : Os) (started : os.Started) (H : Type) (enc : TypeId × Value → H) :
    ReturnsInHanded {} Try.checked os 5 .any (Rows.balanceTrueSpec.pre6 enc Try.prog Try.f5 Rows.balanceTrueRow.domain false) (Rows.balanceTrueSpec.post enc Try.prog Try.f5 false true false false) := by
  refine returnsInHanded_of_change (C := Try.checked) own_ started (by kernel_rfl) Try.func5
    (ChangeSpec.witness6 (enc := enc) (C := Try.checked) false ⟨#[], #[.int .u8 0, .slice none 0 0, .slice none 0 0, .slice none 0 0], []⟩ 8 (by kernel_rfl) (by kernel_rfl) (by kernel_rfl) (by kernel_rfl)) ?_
  intro W base args ds gs before hval0 hW hcnd _
  have hval : ∀ (j : Nat) t v, Try.f5.params[j]? = some t → args[j]? = some v → Value.okWide Try.prog W .any base t v := hval0
  have hW0 : DataW.Whole enc Try.prog Try.f5.params.toList Rows.balanceTrueSpec.vars false W args.toList ds gs before := hW
  obtain ⟨p, q, hA0, hV, rfl, hfz, hnd⟩ := hW
  have hA : DataW.TrodAll enc Try.prog W 0 (fun _ => true) true Try.f5.params.toList args.toList ds p := hA0
  rw [Try.params5] at hA hval
  obtain ⟨v0, v1, v2, v3, d0, d1, d2, d3, p0, p1, p2, p3, rfl, rfl, rfl, h0, h1, h2, h3⟩ := trodAll_four hA
  obtain ⟨rfl, rfl⟩ := trodVars_none hV
  obtain ⟨a, rfl, rfl, rfl, wa⟩ := open_int Try.underlying5 (hval 0 5 v0 rfl rfl) h0
  obtain ⟨s, hs, hr1⟩ := read_s8 (hval 1 39 v1 rfl rfl) h1
  obtain ⟨g, hg, hr2⟩ := read_s16 (hval 2 40 v2 rfl rfl) h2
  obtain ⟨u, hu, hr3⟩ := read_s8 (hval 3 39 v3 rfl rfl) h3
  have hd := tr_does (u8_of2 wa) hs hg hu
  refine law_calls laid (f := 5) (fn := Try.f5) (tb := 4) (by
    rw [Try.params5]
    intro t ht
    simp at ht
    rcases ht with rfl | rfl | rfl | rfl
    · exact read5
    · exact read39
    · exact read40
    · exact read39) rfl (by kernel_rfl) Try.underlying4 rfl hW0 ?_ hd
  exact RelL.mk (.sc _) (RelL.mk hr1 (RelL.mk hr2 (RelL.mk hr3 RelL.mk_nil)))
theorem balance_true_holds : Rows.BalanceTrueSaid :=
  OpenClaim.holds_of_wide 5 Try.f5 rfl rfl rfl rfl rfl rfl rfl ⟨rfl, rfl, rfl, rfl, rfl⟩ rfl rfl rfl rfl rfl (by kernel_rfl) Try.func5 (by kernel_rfl)
    (of_decide_eq_true (by kernel_rfl)) (by unfold Func.isWrapper; first | (rw [if_pos (by decide +kernel)]; kernel_rfl) | (rw [if_neg (by decide +kernel)]; exact ⟨rfl, rfl⟩))
    (fun os started H enc _ => tr_lifted os started H enc)
end Go.Proofs.Ytnbeifpcmjnlkaa
