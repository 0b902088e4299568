import Derived.Test.YtnbeifpcmjnlkaaRows
import Derived.Test.YtnbeifpcmjnlkaaCaCmCeCeVCfCg
import Derived.Test.YtnbeifpcmjnlkaaBp
set_option linter.unusedVariables false
set_option linter.unusedSimpArgs false
set_option maxRecDepth 100000
namespace Go.Proofs.Ytnbeifpcmjnlkaa
open Go Go.Lg
attribute [local irreducible] bodyH
theorem nil_arg {g : FuncId} {fr : Bool} {z : Int} {res : AV} (h : Does Try.prog g fr (SV.denL [(nilP z).sv]) res) : Does Try.prog g fr (SV.denL [SV.agg [.int .i64 z, .val (.slice none 0 0)]]) res := by
  intro w I vals hI hr
  refine h w I vals hI ?_
  have hr : RelL (cellf w) I 0 noβ [AV.agg [.sc (.int .i64 z), .sc (.slice none 0 0)]] vals.toList := hr
  obtain ⟨v, r, e, h1, h2⟩ := hr.cons
  have h3 := h2.nil
  subst h3
  rw [e]
  show RelL (cellf w) I 0 noβ [AV.agg [.sc (.int .i64 z), .isl 4 []]] [v]
  refine RelL.mk ?_ RelL.mk_nil
  cases h1 with
  | agg _ vs hn hv =>
    refine .agg _ vs hn fun j hj => ?_
    match j, hj with
    | 0, _ => exact hv 0 (by simp)
    | 1, _ =>
      have h4 := hv 1 (by simp)
      show Rel _ _ _ _ (AV.isl 4 []) (vs.getD 1 undef)
      have h4 : Rel (cellf w) I 0 noβ (AV.sc (.slice none 0 0)) (vs.getD 1 undef) := h4
      generalize vs.getD 1 undef = u at h4
      cases h4 with
      | sc _ => exact .islz 4 none
theorem tghM_ok : tghM.Ok Try.prog := by
  refine ⟨by kernel_rfl, fun args k hk => ?_⟩
  simp only [tghM] at hk
  split at hk
  · rename_i z
    obtain ⟨res, d, h⟩ := tgh_ok.2 [(nilP z).sv] k ⟨rfl, hk⟩
    exact ⟨res, nil_arg d, h⟩
  · exact tgh_ok.2 _ k hk
  · exact hk.elim
theorem wroM_ok : wroM.Ok Try.prog := by
  refine ⟨by kernel_rfl, fun args k hk => ?_⟩
  simp only [wroM] at hk
  split at hk
  · rename_i z
    obtain ⟨res, d, h⟩ := wro_ok.2 [(nilP z).sv] k ⟨rfl, hk⟩
    exact ⟨res, nil_arg d, h⟩
  · exact wro_ok.2 _ k hk
  · exact hk.elim
theorem csSa_ok : SoundS Try.prog csSa := ctrs_sound (by
  intro x hx
  simp only [List.mem_cons, List.not_mem_nil, or_false] at hx
  rcases hx with rfl | rfl | rfl | rfl | rfl | rfl
  · exact awa_ok
  · exact tghM_ok
  · exact wroM_ok
  · exact rPl_ok
  · exact its_ok
  · exact sps_ok)
end Go.Proofs.Ytnbeifpcmjnlkaa
