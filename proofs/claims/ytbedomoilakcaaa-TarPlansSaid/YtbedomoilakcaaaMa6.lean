/- For every yard of goods: the plan, its income and the error are the ones of the reference, which tries all plans. No condition. -/
import Derived.Test.YtbedomoilakcaaaRows
import Derived.Test.YtbedomoilakcaaaSa1SaV1Sb1Sc1Ma1MaV1Ma2Ma3MaV3Ma4Ma5
import Derived.Test.YtbedomoilakcaaaJr
set_option linter.unusedVariables false
set_option linter.unusedSimpArgs false
set_option maxRecDepth 100000
namespace Go.Proofs.Ytbedomoilakcaaa
open Go.Lg Go.ChangeShapes Go.WideShapes Go.ChangeAt Go.RowKit
attribute [local irreducible] bodyH funS
theorem tp_does {Y:Yd}:Does Try.prog 3 false (SV.denL [Y.sv]) (.sc (.bool true)):=by
 have hh:=tp_true Y
 unfold tpG at hh
 exact funH_does tp_cs nilS_x nilS_ic mixed hh
theorem tp_lifted (os:Os) (started:os.Started) (H:Type) (enc:TypeId × Value→H) :
  ReturnsInHanded {} Try.checked os 3 .any (Rows.tarPlansSpec.pre6 enc Try.prog Try.f3 Rows.tarPlansRow.domain false) (Rows.tarPlansSpec.post enc Try.prog Try.f3 false true false false):=by
 refine returnsInHanded_of_change (C:=Try.checked) own started (by kernel_rfl) Try.func3
  (ChangeSpec.witness6 (enc:=enc) (C:=Try.checked) false ⟨#[],#[.agg #[.slice none 0 0,.slice none 0 0,.slice none 0 0]],[]⟩ 3 (by kernel_rfl) (by kernel_rfl) (by kernel_rfl) (by kernel_rfl)) ?_
 intro W base args ds gs before hval0 hW hcnd _
 have hval:∀ (j:Nat) t v,Try.f3.params[j]?=some t→args[j]?=some v→Value.okWide Try.prog W .any base t v:=hval0
 have hW0:DataW.Whole enc Try.prog Try.f3.params.toList Rows.tarPlansSpec.vars false W args.toList ds gs before:=hW
 obtain ⟨p,q,hA0,hV,rfl,hfz,hnd⟩:=hW
 have hA:DataW.TrodAll enc Try.prog W 0 (fun _=>true) true Try.f3.params.toList args.toList ds p:=hA0
 rw [Try.params3] at hA hval
 obtain ⟨v0,d0,rfl,rfl,h0⟩:=trodAll_one hA
 obtain ⟨rfl,rfl⟩:=trodVars_none hV
 obtain ⟨Y,hr0⟩:=read_yd (hval 0 26 v0 rfl rfl) h0
 have hd:=tp_does (Y:=Y)
 refine law_calls laid (f:=3) (fn:=Try.f3) (tb:=4) (by
  rw [Try.params3]
  intro t ht
  simp at ht
  rcases ht with rfl <;> exact rdb _ (by kernel_rfl)) rfl (by kernel_rfl) Try.underlying4 rfl hW0 ?_ hd
 exact RelL.mk hr0 RelL.mk_nil
theorem tar_plans_holds:Rows.TarPlansSaid :=
 OpenClaim.holds_of_wide 3 Try.f3 rfl rfl rfl rfl rfl rfl rfl ⟨rfl,rfl,rfl,rfl,rfl⟩ rfl rfl rfl rfl rfl (by kernel_rfl) Try.func3 (by kernel_rfl)
  (of_decide_eq_true (by kernel_rfl)) (by unfold Func.isWrapper; first | (rw [if_pos (by decide +kernel)]; kernel_rfl) | (rw [if_neg (by decide +kernel)]; exact ⟨rfl,rfl⟩))
  (fun os started H enc _=>tp_lifted os started H enc)
end Go.Proofs.Ytbedomoilakcaaa
