/- BalanceTruths over all plants: the reference's truths are all truths in lexicographic order; the first is ours, their least and greatest numbers are our tight ends. -/
import Derived.Test.YtmjbflifegmmnaaRows
import Derived.Test.YtmjbflifegmmnaaYb1YbV1Yb2Yb3YbV3YbV4Yb4Yb5
import Derived.Test.YtmjbflifegmmnaaBp
set_option linter.unusedVariables false
set_option linter.unusedSimpArgs false
set_option maxRecDepth 100000
namespace Go.Proofs.Ytmjbflifegmmnaa
open Go.Lg Go.ChangeShapes Go.WideShapes Go.ChangeAt Go.RowKit
attribute [local irreducible] bodyH funS
theorem bt_does (p:Pl):Does Try.prog 3 false (SV.denL [p.sv]) (.sc (.bool true)):=by
 have hh:=bt_true p
 unfold btG at hh
 exact funH_does bt_cs nil_x nil_ic mixed hh
theorem bt_lifted (os:Os) (started:os.Started) (H:Type) (enc:TypeId × Value→H) :
  ReturnsInHanded {} Try.checked os 3 .any (Rows.balanceTruthsSpec.pre6 enc Try.prog Try.f3 Rows.balanceTruthsRow.domain false) (Rows.balanceTruthsSpec.post enc Try.prog Try.f3 false true false false):=by
 refine returnsInHanded_of_change (C:=Try.checked) own_ started (by kernel_rfl) Try.func3
  (ChangeSpec.witness6 (enc:=enc) (C:=Try.checked) false ⟨#[],#[.agg #[.int .i64 0,.slice none 0 0]],[]⟩ 8 (by kernel_rfl) (by kernel_rfl) (by kernel_rfl) (by kernel_rfl)) ?_
 intro W base args ds gs before hval0 hW hcnd _
 have hval:∀ (j:Nat) t v,Try.f3.params[j]?=some t→args[j]?=some v→Value.okWide Try.prog W .any base t v:=hval0
 have hW0:DataW.Whole enc Try.prog Try.f3.params.toList Rows.balanceTruthsSpec.vars false W args.toList ds gs before:=hW
 obtain ⟨p,q,hA0,hV,rfl,hfz,hnd⟩:=hW
 have hA:DataW.TrodAll enc Try.prog W 0 (fun _=>true) true Try.f3.params.toList args.toList ds p:=hA0
 rw [Try.params3] at hA hval
 obtain ⟨v0,d0,rfl,rfl,h0⟩:=trodAll_one hA
 obtain ⟨rfl,rfl⟩:=trodVars_none hV
 obtain ⟨x,hr0⟩:=read_plant (hval 0 24 v0 rfl rfl) h0
 have hd:=bt_does x
 refine law_calls laid (f:=3) (fn:=Try.f3) (tb:=4) (by
  rw [Try.params3]
  intro t ht
  simp at ht
  rcases ht with rfl
  exact read24) rfl (by kernel_rfl) Try.underlying4 rfl hW0 ?_ hd
 exact RelL.mk hr0 RelL.mk_nil
theorem balance_truths_holds:Rows.BalanceTruthsSaid :=
 OpenClaim.holds_of_wide 3 Try.f3 rfl rfl rfl rfl rfl rfl rfl ⟨rfl,rfl,rfl,rfl,rfl⟩ rfl rfl rfl rfl rfl (by kernel_rfl) Try.func3 (by kernel_rfl)
  (of_decide_eq_true (by kernel_rfl)) (by unfold Func.isWrapper; first | (rw [if_pos (by decide +kernel)]; kernel_rfl) | (rw [if_neg (by decide +kernel)]; exact ⟨rfl,rfl⟩))
  (fun os started H enc _=>bt_lifted os started H enc)
end Go.Proofs.Ytmjbflifegmmnaa
