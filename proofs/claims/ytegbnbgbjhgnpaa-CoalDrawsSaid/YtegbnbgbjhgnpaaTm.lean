/- Coal: what each draw takes of the layers, and what is left, over all yards and draws -/
import Derived.Test.YtegbnbgbjhgnpaaRows
import Derived.Test.YtegbnbgbjhgnpaaUeUeVUfTjTkTl
import Derived.Test.YtegbnbgbjhgnpaaQlQlVQoTiTiV
import Derived.Test.YtegbnbgbjhgnpaaQp
set_option linter.unusedVariables false
set_option linter.unusedSimpArgs false
set_option maxRecDepth 100000
namespace Go.Proofs.Ytegbnbgbjhgnpaa
open Go.Lg Go.ChangeShapes Go.WideShapes Go.ChangeAt Go.RowKit
attribute [local irreducible] bodyH funS bodyZ
theorem csK_sound:SoundS Try.prog csK:=ctrsF_sound (ctrs_sound (by
 intro x hx
 simp at hx
 rcases hx with rfl | rfl | rfl
 ·exact lg_ok
 ·exact aw_ok
 ·exact lt_ok)) (by
 intro x hx
 simp at hx
 rcases hx with rfl | rfl | rfl | rfl
 ·exact dw_ok
 ·exact rd_ok
 ·exact lf_ok
 ·exact rl_ok)
theorem cd_does {Y:Yd} {a:Int}:Does Try.prog 3 false (SV.denL [Y.sv,.int .i64 a]) (.sc (.bool true)):=by
 have hh:=cd_true Y a
 unfold cdG at hh
 exact funH_does csK_sound nilS_x nilS_ic mixed hh
theorem cd_lifted (os:Os) (started:os.Started) (H:Type) (enc:TypeId × Value→H) :
  ReturnsInHanded {} Try.checked os 3 .any (Rows.coalDrawsSpec.pre6 enc Try.prog Try.f3 Rows.coalDrawsRow.domain false) (Rows.coalDrawsSpec.post enc Try.prog Try.f3 false true false false):=by
 refine returnsInHanded_of_change (C:=Try.checked) own started (by kernel_rfl) Try.func3
  (ChangeSpec.witness6 (enc:=enc) (C:=Try.checked) false ⟨#[],#[.agg #[.slice none 0 0,.slice none 0 0],.int .i64 0],[]⟩ 7 (by kernel_rfl) (by kernel_rfl) (by kernel_rfl) (by kernel_rfl)) ?_
 intro W base args ds gs before hval0 hW hcnd _
 have hval:∀ (j:Nat) t v,Try.f3.params[j]?=some t→args[j]?=some v→Value.okWide Try.prog W .any base t v:=hval0
 have hW0:DataW.Whole enc Try.prog Try.f3.params.toList Rows.coalDrawsSpec.vars false W args.toList ds gs before:=hW
 obtain ⟨p,q,hA0,hV,rfl,hfz,hnd⟩:=hW
 have hA:DataW.TrodAll enc Try.prog W 0 (fun _=>true) true Try.f3.params.toList args.toList ds p:=hA0
 rw [Try.params3] at hA hval
 obtain ⟨v0,v1,d0,d1,p0,p1,rfl,rfl,rfl,h0,h1⟩:=trodAll_two hA
 obtain ⟨rfl,rfl⟩:=trodVars_none hV
 obtain ⟨Y,hr0⟩:=read_yd (hval 0 25 v0 rfl rfl) h0
 obtain ⟨a,rfl,rfl,rfl,wa⟩:=open_int Try.underlying3 (hval 1 3 v1 rfl rfl) h1
 have hd:=cd_does (Y:=Y) (a:=a)
 refine law_calls laid (f:=3) (fn:=Try.f3) (tb:=4) (by
  rw [Try.params3]
  intro t ht
  simp at ht
  rcases ht with rfl | rfl <;> exact rdb _ (by kernel_rfl)) rfl (by kernel_rfl) Try.underlying4 rfl hW0 ?_ hd
 exact RelL.mk hr0 (RelL.mk (.sc _) RelL.mk_nil)
theorem coal_draws_holds:Rows.CoalDrawsSaid :=
 OpenClaim.holds_of_wide 3 Try.f3 rfl rfl rfl rfl rfl rfl rfl ⟨rfl,rfl,rfl,rfl,rfl⟩ rfl rfl rfl rfl rfl (by kernel_rfl) Try.func3 (by kernel_rfl)
  (of_decide_eq_true (by kernel_rfl)) (by unfold Func.isWrapper; first | (rw [if_pos (by decide +kernel)]; kernel_rfl) | (rw [if_neg (by decide +kernel)]; exact ⟨rfl,rfl⟩))
  (fun os started H enc _=>cd_lifted os started H enc)
end Go.Proofs.Ytegbnbgbjhgnpaa
