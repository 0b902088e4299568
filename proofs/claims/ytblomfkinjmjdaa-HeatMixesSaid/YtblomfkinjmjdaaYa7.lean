/- HeatMixes over all supplies and demands: the reference enumerates the right mixtures in lexicographic order and takes the first of the cheapest; that is the search's answer. -/
import Derived.Test.YtblomfkinjmjdaaRows
import Derived.Test.YtblomfkinjmjdaaYa1YaV1Ya2Ya3YaV3Ya4Ya5YaV5Ya6
import Derived.Test.YtblomfkinjmjdaaGnHr
set_option linter.unusedVariables false
set_option linter.unusedSimpArgs false
set_option maxRecDepth 100000
namespace Go.Proofs.Ytblomfkinjmjdaa
open Go.Lg Go.ChangeShapes Go.WideShapes Go.ChangeAt Go.RowKit
attribute [local irreducible] bodyH funS
theorem hx_does {L:Sl} {v a b:Int}:Does Try.prog 3 false (SV.denL [L.sv,i6 v,i6 a,i6 b]) (.sc (.bool true)):=by
 have hh:=hx_true L v a b
 unfold hxG at hh
 exact funH_does hx_cs nilS_x nilS_ic mixed hh
theorem hx_lifted (os:Os) (started:os.Started) (H:Type) (enc:TypeId × Value→H) :
  ReturnsInHanded {} Try.checked os 3 .any (Rows.heatMixesSpec.pre6 enc Try.prog Try.f3 Rows.heatMixesRow.domain false) (Rows.heatMixesSpec.post enc Try.prog Try.f3 false true false false):=by
 refine returnsInHanded_of_change (C:=Try.checked) own started (by kernel_rfl) Try.func3
  (ChangeSpec.witness6 (enc:=enc) (C:=Try.checked) false ⟨#[],#[.slice none 0 0,.int .i64 0,.int .i64 0,.int .i64 0],[]⟩ 8 (by kernel_rfl) (by kernel_rfl) (by kernel_rfl) (by kernel_rfl)) ?_
 intro W base args ds gs before hval0 hW hcnd _
 have hval:∀ (j:Nat) t v,Try.f3.params[j]?=some t→args[j]?=some v→Value.okWide Try.prog W .any base t v:=hval0
 have hW0:DataW.Whole enc Try.prog Try.f3.params.toList Rows.heatMixesSpec.vars false W args.toList ds gs before:=hW
 obtain ⟨p,q,hA0,hV,rfl,hfz,hnd⟩:=hW
 have hA:DataW.TrodAll enc Try.prog W 0 (fun _=>true) true Try.f3.params.toList args.toList ds p:=hA0
 rw [Try.params3] at hA hval
 obtain ⟨v0,v1,v2,v3,d0,d1,d2,d3,p0,p1,p2,p3,rfl,rfl,rfl,h0,h1,h2,h3⟩:=Go.RowKit.trodAll_four hA
 obtain ⟨rfl,rfl⟩:=trodVars_none hV
 obtain ⟨L,hr0⟩:=read_sups (hval 0 22 v0 rfl rfl) h0
 obtain ⟨a1,rfl,rfl,rfl,w1⟩:=open_int Try.underlying3 (hval 1 3 v1 rfl rfl) h1
 obtain ⟨a2,rfl,rfl,rfl,w2⟩:=open_int Try.underlying3 (hval 2 3 v2 rfl rfl) h2
 obtain ⟨a3,rfl,rfl,rfl,w3⟩:=open_int Try.underlying3 (hval 3 3 v3 rfl rfl) h3
 have hd:=hx_does (L:=L) (v:=a1) (a:=a2) (b:=a3)
 refine law_calls laid (f:=3) (fn:=Try.f3) (tb:=4) (by
  rw [Try.params3]
  intro t ht
  simp at ht
  rcases ht with rfl | rfl
  ·exact read22
  ·exact read3) rfl (by kernel_rfl) Try.underlying4 rfl hW0 ?_ hd
 exact RelL.mk hr0 (RelL.mk (.sc _) (RelL.mk (.sc _) (RelL.mk (.sc _) RelL.mk_nil)))
theorem heat_mixes_holds:Rows.HeatMixesSaid :=
 OpenClaim.holds_of_wide 3 Try.f3 rfl rfl rfl rfl rfl rfl rfl ⟨rfl,rfl,rfl,rfl,rfl⟩ rfl rfl rfl rfl rfl (by kernel_rfl) Try.func3 (by kernel_rfl)
  (of_decide_eq_true (by kernel_rfl)) (by unfold Func.isWrapper; first | (rw [if_pos (by decide +kernel)]; kernel_rfl) | (rw [if_neg (by decide +kernel)]; exact ⟨rfl,rfl⟩))
  (fun os started H enc _=>hx_lifted os started H enc)
end Go.Proofs.Ytblomfkinjmjdaa
