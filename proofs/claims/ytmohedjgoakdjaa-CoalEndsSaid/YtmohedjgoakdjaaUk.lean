/- CoalEnds: over all yards, draws and coals: at each end of a blend there is a division -/
import Derived.Test.YtmohedjgoakdjaaRows
import Derived.Test.YtmohedjgoakdjaaUfUgUhUiUjUl
import Derived.Test.YtmohedjgoakdjaaQp
set_option linter.unusedVariables false
set_option linter.unusedSimpArgs false
set_option maxRecDepth 100000
namespace Go.Proofs.Ytmohedjgoakdjaa
open Go.Lg Go.ChangeShapes Go.WideShapes Go.ChangeAt Go.RowKit
attribute [local irreducible] bodyH funS
theorem en_does {Y:Yd} {a c:Int}:Does Try.prog 7 false (SV.denL [Y.sv,.int .i64 a,.int .i64 c]) (.sc (.bool true)):=by
 have hh:=en_true Y a c
 unfold enG at hh
 exact funH_does csN_sound nilS_x nilS_ic mixed hh
theorem en_lifted (os:Os) (started:os.Started) (H:Type) (enc:TypeId × Value→H) :
  ReturnsInHanded {} Try.checked os 7 .any (Rows.coalEndsSpec.pre6 enc Try.prog Try.f7 Rows.coalEndsRow.domain false) (Rows.coalEndsSpec.post enc Try.prog Try.f7 false true false false):=by
 refine returnsInHanded_of_change (C:=Try.checked) own started (by kernel_rfl) Try.func7
  (ChangeSpec.witness6 (enc:=enc) (C:=Try.checked) false ⟨#[],#[.agg #[.slice none 0 0,.slice none 0 0],.int .i64 0,.int .i64 0],[]⟩ 7 (by kernel_rfl) (by kernel_rfl) (by kernel_rfl) (by kernel_rfl)) ?_
 intro W base args ds gs before hval0 hW hcnd _
 have hval:∀ (j:Nat) t v,Try.f7.params[j]?=some t→args[j]?=some v→Value.okWide Try.prog W .any base t v:=hval0
 have hW0:DataW.Whole enc Try.prog Try.f7.params.toList Rows.coalEndsSpec.vars false W args.toList ds gs before:=hW
 obtain ⟨p,q,hA0,hV,rfl,hfz,hnd⟩:=hW
 have hA:DataW.TrodAll enc Try.prog W 0 (fun _=>true) true Try.f7.params.toList args.toList ds p:=hA0
 rw [Try.params7] at hA hval
 obtain ⟨v0,v1,v2,d0,d1,d2,p0,p1,p2,rfl,rfl,rfl,h0,h1,h2⟩:=trodAll_three hA
 obtain ⟨rfl,rfl⟩:=trodVars_none hV
 obtain ⟨Y,hr0⟩:=read_yd (hval 0 25 v0 rfl rfl) h0
 obtain ⟨a,rfl,rfl,rfl,wa⟩:=open_int Try.underlying3 (hval 1 3 v1 rfl rfl) h1
 obtain ⟨c,rfl,rfl,rfl,wc⟩:=open_int Try.underlying3 (hval 2 3 v2 rfl rfl) h2
 have hd:=en_does (Y:=Y) (a:=a) (c:=c)
 refine law_calls laid (f:=7) (fn:=Try.f7) (tb:=4) (by
  rw [Try.params7]
  intro t ht
  simp at ht
  rcases ht with rfl | rfl | rfl <;> exact rdb _ (by kernel_rfl)) rfl (by kernel_rfl) Try.underlying4 rfl hW0 ?_ hd
 exact RelL.mk hr0 (RelL.mk (.sc _) (RelL.mk (.sc _) RelL.mk_nil))
theorem coal_ends_holds:Rows.CoalEndsSaid :=
 OpenClaim.holds_of_wide 7 Try.f7 rfl rfl rfl rfl rfl rfl rfl ⟨rfl,rfl,rfl,rfl,rfl⟩ rfl rfl rfl rfl rfl (by kernel_rfl) Try.func7 (by kernel_rfl)
  (of_decide_eq_true (by kernel_rfl)) (by unfold Func.isWrapper; first | (rw [if_pos (by decide +kernel)]; kernel_rfl) | (rw [if_neg (by decide +kernel)]; exact ⟨rfl,rfl⟩))
  (fun os started H enc _=>en_lifted os started H enc)
end Go.Proofs.Ytmohedjgoakdjaa
