/- BoxRuns: the walk with memo maps; the reference by contracts; awake by the walk -/
import Derived.Test.YtpdcajchppoocaaRows
import Derived.Test.YtpdcajchppoocaaEsXc3
set_option linter.unusedVariables false
set_option linter.unusedSimpArgs false
set_option maxRecDepth 100000
namespace Go.Proofs.Ytpdcajchppoocaa
open Go.Lg Go.ChangeShapes Go.WideShapes Go.ChangeAt Go.RowKit
attribute [local irreducible] bodyH
theorem ch_split {T:Tn} {n:Nat} {w:Nat→Bool} (h:chE T n w=0):n=T.nl∧okR T w:=by
 have hT:okT T:=Classical.byContradiction fun hn=>by have:=(ch_bad (n:=n) (w:=w) hn).2; omega
 have hl:n=T.nl:=Classical.byContradiction fun hn=>by have:=(ch_len (w:=w) hT hn).2; omega
 have hf:¬ fwA T w<n:=fun hn=>by have:=(ch_fw hT hl hn).2; omega
 have hd:=fw_d (T:=T) (w:=w)
 exact ⟨hl,hT,by omega⟩
theorem boxRuns_does (T:Tn) (n:Nat) (w:Nat→Bool):Does Try.prog 3 false (SV.denL [tV T,twL n w]) (.sc (.bool true)):=by
 by_cases h:chE T n w=0
 ·obtain ⟨hl,hR⟩:=ch_split h
  subst hl
  have hh:=ruL_true hR
  unfold ruLG at hh
  exact funH_does ruL_cs nil_x nil_ic mixed hh
 ·have hh:=ruLB_true h
  unfold ruBG at hh
  exact funH_does ruB_cs nil_x nil_ic mixed hh
theorem boxRuns_lifted (os:Os) (started:os.Started) (H:Type) (enc:TypeId × Value→H) :
  ReturnsInHanded {} Try.checked os 3 .any (Rows.boxRunsSpec.pre6 enc Try.prog Try.f3 Rows.boxRunsRow.domain false) (Rows.boxRunsSpec.post enc Try.prog Try.f3 false true false false):=by
 refine returnsInHanded_of_change (C:=Try.checked) own started (by kernel_rfl) Try.func3
  (ChangeSpec.witness6 (enc:=enc) (C:=Try.checked) false ⟨#[],#[.agg #[.slice none 0 0,.int .i64 0,.int .i64 0,.int .i64 0,.int .i64 0,.int .i64 0,.slice none 0 0],.slice none 0 0],[]⟩ 3 (by kernel_rfl) (by kernel_rfl) (by kernel_rfl) (by kernel_rfl)) ?_
 intro W base args ds gs before hval0 hW hcnd _
 have hval:∀ (j:Nat) t v,Try.f3.params[j]?=some t→args[j]?=some v→Value.okWide Try.prog W .any base t v:=hval0
 have hW0:DataW.Whole enc Try.prog Try.f3.params.toList Rows.boxRunsSpec.vars false W args.toList ds gs before:=hW
 obtain ⟨p,q,hA0,hV,rfl,hfz,hnd⟩:=hW
 have hA:DataW.TrodAll enc Try.prog W 0 (fun _=>true) true Try.f3.params.toList args.toList ds p:=hA0
 rw [Try.params3] at hA hval
 obtain ⟨v0,v1,d0,d1,p0,p1,rfl,rfl,rfl,h0,h1⟩:=trodAll_two hA
 obtain ⟨rfl,rfl⟩:=trodVars_none hV
 obtain ⟨T,hr0⟩:=read_train (hval 0 25 v0 rfl rfl) h0
 obtain ⟨n,t,hr1⟩:=read_turns (hval 1 26 v1 rfl rfl) h1
 have hd:=boxRuns_does T n t
 refine law_calls laid (f:=3) (fn:=Try.f3) (tb:=4) (by
  rw [Try.params3]
  intro t ht
  simp at ht
  rcases ht with rfl | rfl
  ·exact read25
  ·exact read26) rfl (by kernel_rfl) Try.underlying4 rfl hW0 ?_ hd
 exact RelL.mk hr0 (RelL.mk hr1 RelL.mk_nil)
theorem box_runs_holds:Rows.BoxRunsSaid :=
 OpenClaim.holds_of_wide 3 Try.f3 rfl rfl rfl rfl rfl rfl rfl ⟨rfl,rfl,rfl,rfl,rfl⟩ rfl rfl rfl rfl rfl (by kernel_rfl) Try.func3 (by kernel_rfl)
  (of_decide_eq_true (by kernel_rfl)) (by unfold Func.isWrapper; first | (rw [if_pos (by decide +kernel)]; kernel_rfl) | (rw [if_neg (by decide +kernel)]; exact ⟨rfl,rfl⟩))
  (fun os started H enc _=>boxRuns_lifted os started H enc)
end Go.Proofs.Ytpdcajchppoocaa
