/- For every train and turns: with the Hi of each load greater by the margin nothing slips through, and with one more something does, unless there is no limit; or the errors agree. No condition. -/
import Derived.Test.YtpdcajchppoocaaRows
import Derived.Test.YtpdcajchppoocaaEsGd
set_option linter.unusedVariables false
set_option linter.unusedSimpArgs false
set_option maxRecDepth 100000
namespace Go.Proofs.Ytpdcajchppoocaa
open Go.Lg Go.ChangeShapes Go.WideShapes Go.ChangeAt Go.RowKit
attribute [local irreducible] bodyH
theorem mB_cs:SoundS Try.prog (ctrs [grC,alvC,ruD,mrgC 25]):=ctrs_sound (by
 intro x hx
 simp only [List.mem_cons,List.not_mem_nil,or_false] at hx
 rcases hx with rfl | rfl | rfl | rfl
 ·exact gr_ok
 ·exact alv_ok
 ·exact ruD_ok
 ·exact mrg_ok)
theorem mG_cs:SoundS Try.prog (ctrsF [moC] (ctrs [grC,alvC,ruC,mrgC 25,cqC])):=ctrsF_sound (ctrs_sound (by
 intro x hx
 simp only [List.mem_cons,List.not_mem_nil,or_false] at hx
 rcases hx with rfl | rfl | rfl | rfl | rfl
 ·exact gr_ok
 ·exact alv_ok
 ·exact ruC_ok
 ·exact mrg_ok
 ·exact cq_ok)) (by intro x hx; simp at hx; subst hx; exact mo_ok)
theorem ch_split {T:Tn} {n:Nat} {w:Nat→Bool} (h:chE T n w=0):n=T.nl∧okR T w:=by
 have hT:okT T:=Classical.byContradiction fun hn=>by have:=(ch_bad (n:=n) (w:=w) hn).2; omega
 have hl:n=T.nl:=Classical.byContradiction fun hn=>by have:=(ch_len (w:=w) hT hn).2; omega
 have hf:¬ fwA T w<n:=fun hn=>by have:=(ch_fw hT hl hn).2; omega
 have hd:=fw_d (T:=T) (w:=w)
 exact ⟨hl,hT,by omega⟩
theorem boxMargin_does (T:Tn) (n:Nat) (w:Nat→Bool):Does Try.prog 11 false (SV.denL [tV T,twL n w]) (.sc (.bool true)):=by
 by_cases h:chE T n w=0
 ·obtain ⟨hl,hR⟩:=ch_split h
  subst hl
  have hh:=mG_true hR
  unfold mGG at hh
  exact funH_does mG_cs nil_x nil_ic mixed hh
 ·have hh:=mB_true h
  unfold mBG at hh
  exact funH_does mB_cs nil_x nil_ic mixed hh
theorem boxMargin_lifted (os:Os) (started:os.Started) (H:Type) (enc:TypeId × Value→H) :
  ReturnsInHanded {} Try.checked os 11 .any (Rows.boxMarginSpec.pre6 enc Try.prog Try.f11 Rows.boxMarginRow.domain false) (Rows.boxMarginSpec.post enc Try.prog Try.f11 false true false false):=by
 refine returnsInHanded_of_change (C:=Try.checked) own started (by kernel_rfl) Try.func11
  (ChangeSpec.witness6 (enc:=enc) (C:=Try.checked) false ⟨#[],#[.agg #[.slice none 0 0,.int .i64 0,.int .i64 0,.int .i64 0,.int .i64 0,.int .i64 0,.slice none 0 0],.slice none 0 0],[]⟩ 11 (by kernel_rfl) (by kernel_rfl) (by kernel_rfl) (by kernel_rfl)) ?_
 intro W base args ds gs before hval0 hW hcnd _
 have hval:∀ (j:Nat) t v,Try.f11.params[j]?=some t→args[j]?=some v→Value.okWide Try.prog W .any base t v:=hval0
 have hW0:DataW.Whole enc Try.prog Try.f11.params.toList Rows.boxMarginSpec.vars false W args.toList ds gs before:=hW
 obtain ⟨p,q,hA0,hV,rfl,hfz,hnd⟩:=hW
 have hA:DataW.TrodAll enc Try.prog W 0 (fun _=>true) true Try.f11.params.toList args.toList ds p:=hA0
 rw [Try.params11] at hA hval
 obtain ⟨v0,v1,d0,d1,p0,p1,rfl,rfl,rfl,h0,h1⟩:=trodAll_two hA
 obtain ⟨rfl,rfl⟩:=trodVars_none hV
 obtain ⟨T,hr0⟩:=read_train (hval 0 25 v0 rfl rfl) h0
 obtain ⟨n,t,hr1⟩:=read_turns (hval 1 26 v1 rfl rfl) h1
 have hd:=boxMargin_does T n t
 refine law_calls laid (f:=11) (fn:=Try.f11) (tb:=4) (by
  rw [Try.params11]
  intro t ht
  simp at ht
  rcases ht with rfl | rfl
  ·exact read25
  ·exact read26) rfl (by kernel_rfl) Try.underlying4 rfl hW0 ?_ hd
 exact RelL.mk hr0 (RelL.mk hr1 RelL.mk_nil)
theorem box_margin_holds:Rows.BoxMarginSaid :=
 OpenClaim.holds_of_wide 11 Try.f11 rfl rfl rfl rfl rfl rfl rfl ⟨rfl,rfl,rfl,rfl,rfl⟩ rfl rfl rfl rfl rfl (by kernel_rfl) Try.func11 (by kernel_rfl)
  (of_decide_eq_true (by kernel_rfl)) (by unfold Func.isWrapper; first | (rw [if_pos (by decide +kernel)]; kernel_rfl) | (rw [if_neg (by decide +kernel)]; exact ⟨rfl,rfl⟩))
  (fun os started H enc _=>boxMargin_lifted os started H enc)
end Go.Proofs.Ytpdcajchppoocaa
