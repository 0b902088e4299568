/- BalanceProofs over all plants, flows and ends: the reference's first set that proves an end, or that has too much, is ours. -/
import Derived.Test.YtmjbflifegmmnaaRows
import Derived.Test.YtmjbflifegmmnaaZc1ZcV1ZcV2Zc2Zc3
import Derived.Test.YtmjbflifegmmnaaBp
set_option linter.unusedVariables false
set_option linter.unusedSimpArgs false
set_option maxRecDepth 100000
namespace Go.Proofs.Ytmjbflifegmmnaa
open Go.Lg Go.ChangeShapes Go.WideShapes Go.ChangeAt Go.RowKit
attribute [local irreducible] bodyH funS
variable {H:Type} {enc:TypeId × Value→H} {w:World}
theorem bp_does (p:Pl) (i:Int) (b:Bool):Does Try.prog 4 false (SV.denL [p.sv,i6 i,.bool b]) (.sc (.bool true)):=by
 cases b
 ·have hh:=bpf_true p i
  unfold bpf bpG at hh
  exact funH_does bp_cs nil_x nil_ic mixed hh
 ·have hh:=bpt_true p i
  unfold bpt bpG at hh
  exact funH_does bp_cs nil_x nil_ic mixed hh
theorem bp_lifted (os:Os) (started:os.Started) (H:Type) (enc:TypeId × Value→H) :
  ReturnsInHanded {} Try.checked os 4 .any (Rows.balanceProofsSpec.pre6 enc Try.prog Try.f4 Rows.balanceProofsRow.domain false) (Rows.balanceProofsSpec.post enc Try.prog Try.f4 false true false false):=by
 refine returnsInHanded_of_change (C:=Try.checked) own_ started (by kernel_rfl) Try.func4
  (ChangeSpec.witness6 (enc:=enc) (C:=Try.checked) false ⟨#[],#[.agg #[.int .i64 0,.slice none 0 0],.int .i64 0,.bool false],[]⟩ 8 (by kernel_rfl) (by kernel_rfl) (by kernel_rfl) (by kernel_rfl)) ?_
 intro W base args ds gs before hval0 hW hcnd _
 have hval:∀ (j:Nat) t v,Try.f4.params[j]?=some t→args[j]?=some v→Value.okWide Try.prog W .any base t v:=hval0
 have hW0:DataW.Whole enc Try.prog Try.f4.params.toList Rows.balanceProofsSpec.vars false W args.toList ds gs before:=hW
 obtain ⟨p,q,hA0,hV,rfl,hfz,hnd⟩:=hW
 have hA:DataW.TrodAll enc Try.prog W 0 (fun _=>true) true Try.f4.params.toList args.toList ds p:=hA0
 rw [Try.params4] at hA hval
 obtain ⟨v0,v1,v2,d0,d1,d2,p0,p1,p2,rfl,rfl,rfl,h0,h1,h2⟩:=trodAll_three hA
 obtain ⟨rfl,rfl⟩:=trodVars_none hV
 obtain ⟨x,hr0⟩:=read_plant (hval 0 24 v0 rfl rfl) h0
 obtain ⟨z,rfl,rfl,rfl,wz⟩:=open_int Try.underlying3 (hval 1 3 v1 rfl rfl) h1
 obtain ⟨b,rfl,rfl,rfl⟩:=open_bool Try.underlying4 (hval 2 4 v2 rfl rfl) h2
 have hd:=bp_does x z b
 refine law_calls laid (f:=4) (fn:=Try.f4) (tb:=4) (by
  rw [Try.params4]
  intro t ht
  simp at ht
  rcases ht with rfl | rfl | rfl
  ·exact read24
  ·exact read3
  ·exact read4) rfl (by kernel_rfl) Try.underlying4 rfl hW0 ?_ hd
 exact RelL.mk hr0 (RelL.mk (.sc _) (RelL.mk (.sc _) RelL.mk_nil))

theorem balance_proofs_holds:Rows.BalanceProofsSaid :=
 OpenClaim.holds_of_wide 4 Try.f4 rfl rfl rfl rfl rfl rfl rfl ⟨rfl,rfl,rfl,rfl,rfl⟩ rfl rfl rfl rfl rfl (by kernel_rfl) Try.func4 (by kernel_rfl)
  (of_decide_eq_true (by kernel_rfl)) (by unfold Func.isWrapper; first | (rw [if_pos (by decide +kernel)]; kernel_rfl) | (rw [if_neg (by decide +kernel)]; exact ⟨rfl,rfl⟩))
  (fun os started H enc _=>bp_lifted os started H enc)
end Go.Proofs.Ytmjbflifegmmnaa
