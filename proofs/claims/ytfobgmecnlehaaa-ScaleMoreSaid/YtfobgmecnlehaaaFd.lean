/- More profit in a year pays no less in it, leaves no less in reserve and no more arrears, and what Needed returns is just enough, for all acts and years within the limits that the statement names. -/
import Derived.Test.YtfobgmecnlehaaaFaFaVFbFc
import Derived.Test.YtfobgmecnlehaaaEo
set_option linter.unusedVariables false
set_option linter.unusedSimpArgs false
set_option maxRecDepth 100000
namespace Go.Proofs.Ytfobgmecnlehaaa
open Go.Lg Go.ChangeShapes Go.WideShapes Go.ChangeAt Go.RowKit
attribute [local irreducible] bodyH funS
theorem u32_of {a:Int} (h:(Lit.int .u32 a).wf=true):0≤a∧a≤4294967295:=by
 simp only [Lit.wf,Bool.and_eq_true,decide_eq_true_eq,IntKind.min,IntKind.max,IntKind.signed,IntKind.bits,Bool.false_eq_true,if_false] at h
 omega
theorem cxM_sound:SoundXH Try.prog noGhost γ0 cxM:=inl_sound (ys:=none) csL_sound noX_sound trivial nilS_ic mixed
theorem l8_does (a:Act) (n:Nat) (f:Nat→Yr) (w b:Int) (hw:(Lit.int .u8 w).wf=true) (hb:(Lit.int .u32 b).wf=true):Does Try.prog 8 false (SV.denL [a.sv,yrL n f,.int .u8 w,.int .u32 b]) (.sc (.bool true)):=by
 obtain ⟨k,P,hh⟩:=l8_true a n f w b (u8_of hw) (u32_of hb)
 unfold l8G at hh
 exact funH_does csL_sound cxM_sound nilS_ic mixed hh
theorem l8_lifted (os:Os) (started:os.Started) (H:Type) (enc:TypeId × Value→H) :
  ReturnsInHanded {} Try.checked os 8 .any (Rows.scaleMoreSpec.pre6 enc Try.prog Try.f8 Rows.scaleMoreRow.domain false) (Rows.scaleMoreSpec.post enc Try.prog Try.f8 false true false false):=by
 refine returnsInHanded_of_change (C:=Try.checked) own started (by kernel_rfl) Try.func8
  (ChangeSpec.witness6 (enc:=enc) (C:=Try.checked) false ⟨#[],#[.agg #[.int .i64 0,.int .i64 0,.int .i64 0,.int .i64 0,.int .i64 0,.int .i64 0],.slice none 0 0,.int .u8 0,.int .u32 0],[]⟩ 8 (by kernel_rfl) (by kernel_rfl) (by kernel_rfl) (by kernel_rfl)) ?_
 intro W base args ds gs before hval0 hW hcnd _
 have hval:∀ (j:Nat) t v,Try.f8.params[j]?=some t→args[j]?=some v→Value.okWide Try.prog W .any base t v:=hval0
 have hW0:DataW.Whole enc Try.prog Try.f8.params.toList Rows.scaleMoreSpec.vars false W args.toList ds gs before:=hW
 obtain ⟨p,q,hA0,hV,rfl,hfz,hnd⟩:=hW
 have hA:DataW.TrodAll enc Try.prog W 0 (fun _=>true) true Try.f8.params.toList args.toList ds p:=hA0
 rw [Try.params8] at hA hval
 obtain ⟨v0,v1,v2,v3,d0,d1,d2,d3,p0,p1,p2,p3,rfl,rfl,rfl,h0,h1,h2,h3⟩:=trodAll_four hA
 obtain ⟨rfl,rfl⟩:=trodVars_none hV
 obtain ⟨a,hr0⟩:=read_act (hval 0 23 v0 rfl rfl) h0
 obtain ⟨n,f,hr1⟩:=read_yrs (hval 1 29 v1 rfl rfl) h1
 obtain ⟨w,rfl,rfl,rfl,ww⟩:=open_int Try.underlying5 (hval 2 5 v2 rfl rfl) h2
 obtain ⟨b,rfl,rfl,rfl,wb⟩:=open_int Try.underlying54 (hval 3 54 v3 rfl rfl) h3
 have hd:=l8_does a n f w b ww wb
 refine law_calls laid (f:=8) (fn:=Try.f8) (tb:=4) (by
  rw [Try.params8]
  intro t ht
  simp at ht
  rcases ht with rfl | rfl | rfl | rfl <;> exact rdb _ (by kernel_rfl)) rfl (by kernel_rfl) Try.underlying4 rfl hW0 ?_ hd
 exact RelL.mk hr0 (RelL.mk hr1 (RelL.mk (.sc _) (RelL.mk (.sc _) RelL.mk_nil)))
theorem scale_more_holds:Rows.ScaleMoreSaid :=
 OpenClaim.holds_of_wide 8 Try.f8 rfl rfl rfl rfl rfl rfl rfl ⟨rfl,rfl,rfl,rfl,rfl⟩ rfl rfl rfl rfl rfl (by kernel_rfl) Try.func8 (by kernel_rfl)
  (of_decide_eq_true (by kernel_rfl)) (by unfold Func.isWrapper; first | (rw [if_pos (by decide +kernel)]; kernel_rfl) | (rw [if_neg (by decide +kernel)]; exact ⟨rfl,rfl⟩))
  (fun os started H enc _=>l8_lifted os started H enc)
end Go.Proofs.Ytfobgmecnlehaaa
