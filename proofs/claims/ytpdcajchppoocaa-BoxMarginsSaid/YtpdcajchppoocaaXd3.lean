/- BoxMargins: Margin against the reference, by contracts -/
import Derived.Test.YtpdcajchppoocaaRows
import Derived.Test.YtpdcajchppoocaaXd1XdV1XdV2Xd2
import Derived.Test.YtpdcajchppoocaaC8
set_option linter.unusedVariables false
set_option linter.unusedSimpArgs false
set_option maxRecDepth 100000
namespace Go.Proofs.Ytpdcajchppoocaa
open Go.Lg Go.ChangeShapes Go.WideShapes Go.ChangeAt Go.RowKit
attribute [local irreducible] bodyH
theorem ml_cs:SoundS Try.prog (ctrsF [mrgC 26] (ctrs [grC,alvC,trC,mrgC 25])):=ctrsF_sound (ctrs_sound (by
 intro x hx
 simp only [List.mem_cons,List.not_mem_nil,or_false] at hx
 rcases hx with rfl | rfl | rfl | rfl
 ·exact gr_ok
 ·exact alv_ok
 ·exact tr_ok
 ·exact mrg_ok)) (by intro x hx; simp at hx; subst hx; exact rm_ok)
theorem boxMargins_does (T:Tn) (n:Nat) (w:Nat→Bool):Does Try.prog 5 false (SV.denL [tV T,twL n w]) (.sc (.bool true)):=by
 have hh:=ml_true T n w
 unfold mlG at hh
 exact funH_does ml_cs nil_x nil_ic mixed hh
theorem boxMargins_lifted (os:Os) (started:os.Started) (H:Type) (enc:TypeId × Value→H) :
  ReturnsInHanded {} Try.checked os 5 .any (Rows.boxMarginsSpec.pre6 enc Try.prog Try.f5 Rows.boxMarginsRow.domain false) (Rows.boxMarginsSpec.post enc Try.prog Try.f5 false true false false):=by
 refine returnsInHanded_of_change (C:=Try.checked) own started (by kernel_rfl) Try.func5
  (ChangeSpec.witness6 (enc:=enc) (C:=Try.checked) false ⟨#[],#[.agg #[.slice none 0 0,.int .i64 0,.int .i64 0,.int .i64 0,.int .i64 0,.int .i64 0,.slice none 0 0],.slice none 0 0],[]⟩ 5 (by kernel_rfl) (by kernel_rfl) (by kernel_rfl) (by kernel_rfl)) ?_
 intro W base args ds gs before hval0 hW hcnd _
 have hval:∀ (j:Nat) t v,Try.f5.params[j]?=some t→args[j]?=some v→Value.okWide Try.prog W .any base t v:=hval0
 have hW0:DataW.Whole enc Try.prog Try.f5.params.toList Rows.boxMarginsSpec.vars false W args.toList ds gs before:=hW
 obtain ⟨p,q,hA0,hV,rfl,hfz,hnd⟩:=hW
 have hA:DataW.TrodAll enc Try.prog W 0 (fun _=>true) true Try.f5.params.toList args.toList ds p:=hA0
 rw [Try.params5] at hA hval
 obtain ⟨v0,v1,d0,d1,p0,p1,rfl,rfl,rfl,h0,h1⟩:=trodAll_two hA
 obtain ⟨rfl,rfl⟩:=trodVars_none hV
 obtain ⟨T,hr0⟩:=read_train (hval 0 25 v0 rfl rfl) h0
 obtain ⟨n,t,hr1⟩:=read_turns (hval 1 26 v1 rfl rfl) h1
 have hd:=boxMargins_does T n t
 refine law_calls laid (f:=5) (fn:=Try.f5) (tb:=4) (by
  rw [Try.params5]
  intro t ht
  simp at ht
  rcases ht with rfl | rfl
  ·exact read25
  ·exact read26) rfl (by kernel_rfl) Try.underlying4 rfl hW0 ?_ hd
 exact RelL.mk hr0 (RelL.mk hr1 RelL.mk_nil)
theorem box_margins_holds:Rows.BoxMarginsSaid :=
 OpenClaim.holds_of_wide 5 Try.f5 rfl rfl rfl rfl rfl rfl rfl ⟨rfl,rfl,rfl,rfl,rfl⟩ rfl rfl rfl rfl rfl (by kernel_rfl) Try.func5 (by kernel_rfl)
  (of_decide_eq_true (by kernel_rfl)) (by unfold Func.isWrapper; first | (rw [if_pos (by decide +kernel)]; kernel_rfl) | (rw [if_neg (by decide +kernel)]; exact ⟨rfl,rfl⟩))
  (fun os started H enc _=>boxMargins_lifted os started H enc)
end Go.Proofs.Ytpdcajchppoocaa
