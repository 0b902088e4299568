/- Whatever comes out of the stills, a plan that can be worked lacks nothing, what is left is within what is said, and what is said can be sold; a plan that cannot be worked lacks something. -/
import Derived.Test.YtifjghgejnkdoaaRows
import Derived.Test.YtifjghgejnkdoaaJxaJvVJx
import Derived.Test.YtifjghgejnkdoaaIgJr
set_option linter.unusedVariables false
set_option linter.unusedSimpArgs false
set_option maxRecDepth 100000
namespace Go.Proofs.Ytifjghgejnkdoaa
open Go.Lg Go.ChangeShapes Go.WideShapes Go.ChangeAt Go.RowKit
attribute [local irreducible] bodyH funS
theorem tt_does {Y:Yd} {n:Nat} {p:Nat→Int} {m:Nat} {b:Nat→Int} (hb:∀ i,i<m→(Lit.int .u16 (b i)).wf=true):Does Try.prog 5 false (SV.denL [Y.sv,iL n p,uL .u16 m b]) (.sc (.bool true)):=by
 have hh:=tt_true (Y:=Y) (n:=n) (p:=p) (m:=m) (b:=b) fun i hi=>u16_of (hb i hi)
 unfold ttG at hh
 exact funH_does csV_sound nilS_x nilS_ic mixed hh
theorem tt_lifted (os:Os) (started:os.Started) (H:Type) (enc:TypeId × Value→H) :
  ReturnsInHanded {} Try.checked os 5 .any (Rows.tarTrueSpec.pre6 enc Try.prog Try.f5 Rows.tarTrueRow.domain false) (Rows.tarTrueSpec.post enc Try.prog Try.f5 false true false false):=by
 refine returnsInHanded_of_change (C:=Try.checked) own started (by kernel_rfl) Try.func5
  (ChangeSpec.witness6 (enc:=enc) (C:=Try.checked) false ⟨#[],#[.agg #[.slice none 0 0,.slice none 0 0,.slice none 0 0],.slice none 0 0,.slice none 0 0],[]⟩ 5 (by kernel_rfl) (by kernel_rfl) (by kernel_rfl) (by kernel_rfl)) ?_
 intro W base args ds gs before hval0 hW hcnd _
 have hval:∀ (j:Nat) t v,Try.f5.params[j]?=some t→args[j]?=some v→Value.okWide Try.prog W .any base t v:=hval0
 have hW0:DataW.Whole enc Try.prog Try.f5.params.toList Rows.tarTrueSpec.vars false W args.toList ds gs before:=hW
 obtain ⟨p,q,hA0,hV,rfl,hfz,hnd⟩:=hW
 have hA:DataW.TrodAll enc Try.prog W 0 (fun _=>true) true Try.f5.params.toList args.toList ds p:=hA0
 rw [Try.params5] at hA hval
 obtain ⟨v0,v1,v2,d0,d1,d2,p0,p1,p2,rfl,rfl,rfl,h0,h1,h2⟩:=trodAll_three hA
 obtain ⟨rfl,rfl⟩:=trodVars_none hV
 obtain ⟨Y,hr0⟩:=read_yd (hval 0 26 v0 rfl rfl) h0
 obtain ⟨n,f,hr1⟩:=read_il (hval 1 22 v1 rfl rfl) h1
 obtain ⟨m,b,hb,hr2⟩:=read_ul (K:=.u16) Try.underlying46 Try.underlying49 (by kernel_rfl) (hval 2 46 v2 rfl rfl) h2
 have hd:=tt_does (Y:=Y) (n:=n) (p:=f) (m:=m) (b:=b) hb
 refine law_calls laid (f:=5) (fn:=Try.f5) (tb:=4) (by
  rw [Try.params5]
  intro t ht
  simp at ht
  rcases ht with rfl | rfl | rfl <;> exact rdb _ (by kernel_rfl)) rfl (by kernel_rfl) Try.underlying4 rfl hW0 ?_ hd
 exact RelL.mk hr0 (RelL.mk hr1 (RelL.mk hr2 RelL.mk_nil))
theorem tar_true_holds:Rows.TarTrueSaid :=
 OpenClaim.holds_of_wide 5 Try.f5 rfl rfl rfl rfl rfl rfl rfl ⟨rfl,rfl,rfl,rfl,rfl⟩ rfl rfl rfl rfl rfl (by kernel_rfl) Try.func5 (by kernel_rfl)
  (of_decide_eq_true (by kernel_rfl)) (by unfold Func.isWrapper; first | (rw [if_pos (by decide +kernel)]; kernel_rfl) | (rw [if_neg (by decide +kernel)]; exact ⟨rfl,rfl⟩))
  (fun os started H enc _=>tt_lifted os started H enc)
end Go.Proofs.Ytifjghgejnkdoaa
