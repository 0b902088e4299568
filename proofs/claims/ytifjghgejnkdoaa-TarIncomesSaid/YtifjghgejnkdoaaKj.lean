/- What is left after any plan, its sure income and what any carts carried are what the reference says, and the same errors. -/
import Derived.Test.YtifjghgejnkdoaaRows
import Derived.Test.YtifjghgejnkdoaaKdKdVKeKeVKfKgKhKhVKi
import Derived.Test.YtifjghgejnkdoaaIgJr
set_option linter.unusedVariables false
set_option linter.unusedSimpArgs false
set_option maxRecDepth 100000
namespace Go.Proofs.Ytifjghgejnkdoaa
open Go.Lg Go.ChangeShapes Go.WideShapes Go.ChangeAt Go.RowKit
attribute [local irreducible] bodyH funS
theorem ti_does {Y:Yd} {n:Nat} {p:Nat→Int} {W:Wl}:Does Try.prog 4 false (SV.denL [Y.sv,iL n p,W.sv]) (.sc (.bool true)):=by
 have hh:=ti_true Y n p W
 unfold tinG at hh
 exact funH_does csNi_sound nilS_x nilS_ic mixed hh
theorem ti_lifted (os:Os) (started:os.Started) (H:Type) (enc:TypeId × Value→H) :
  ReturnsInHanded {} Try.checked os 4 .any (Rows.tarIncomesSpec.pre6 enc Try.prog Try.f4 Rows.tarIncomesRow.domain false) (Rows.tarIncomesSpec.post enc Try.prog Try.f4 false true false false):=by
 refine returnsInHanded_of_change (C:=Try.checked) own started (by kernel_rfl) Try.func4
  (ChangeSpec.witness6 (enc:=enc) (C:=Try.checked) false ⟨#[],#[.agg #[.slice none 0 0,.slice none 0 0,.slice none 0 0],.slice none 0 0,.slice none 0 0],[]⟩ 4 (by kernel_rfl) (by kernel_rfl) (by kernel_rfl) (by kernel_rfl)) ?_
 intro W base args ds gs before hval0 hW hcnd _
 have hval:∀ (j:Nat) t v,Try.f4.params[j]?=some t→args[j]?=some v→Value.okWide Try.prog W .any base t v:=hval0
 have hW0:DataW.Whole enc Try.prog Try.f4.params.toList Rows.tarIncomesSpec.vars false W args.toList ds gs before:=hW
 obtain ⟨p,q,hA0,hV,rfl,hfz,hnd⟩:=hW
 have hA:DataW.TrodAll enc Try.prog W 0 (fun _=>true) true Try.f4.params.toList args.toList ds p:=hA0
 rw [Try.params4] at hA hval
 obtain ⟨v0,v1,v2,d0,d1,d2,p0,p1,p2,rfl,rfl,rfl,h0,h1,h2⟩:=trodAll_three hA
 obtain ⟨rfl,rfl⟩:=trodVars_none hV
 obtain ⟨Y,hr0⟩:=read_yd (hval 0 26 v0 rfl rfl) h0
 obtain ⟨n,f,hr1⟩:=read_il (hval 1 22 v1 rfl rfl) h1
 obtain ⟨T,hr2⟩:=read_wl (hval 2 34 v2 rfl rfl) h2
 have hd:=ti_does (Y:=Y) (n:=n) (p:=f) (W:=T)
 refine law_calls laid (f:=4) (fn:=Try.f4) (tb:=4) (by
  rw [Try.params4]
  intro t ht
  simp at ht
  rcases ht with rfl | rfl | rfl <;> exact rdb _ (by kernel_rfl)) rfl (by kernel_rfl) Try.underlying4 rfl hW0 ?_ hd
 exact RelL.mk hr0 (RelL.mk hr1 (RelL.mk hr2 RelL.mk_nil))
theorem tar_incomes_holds:Rows.TarIncomesSaid :=
 OpenClaim.holds_of_wide 4 Try.f4 rfl rfl rfl rfl rfl rfl rfl ⟨rfl,rfl,rfl,rfl,rfl⟩ rfl rfl rfl rfl rfl (by kernel_rfl) Try.func4 (by kernel_rfl)
  (of_decide_eq_true (by kernel_rfl)) (by unfold Func.isWrapper; first | (rw [if_pos (by decide +kernel)]; kernel_rfl) | (rw [if_neg (by decide +kernel)]; exact ⟨rfl,rfl⟩))
  (fun os started H enc _=>ti_lifted os started H enc)
end Go.Proofs.Ytifjghgejnkdoaa
