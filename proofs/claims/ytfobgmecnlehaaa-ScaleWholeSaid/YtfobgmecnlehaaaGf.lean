/- What was earned in all is what was paid, went back and is left, the reserve and the payments are within what the act allows, and Check tells right payments from wrong ones, for all acts and years within the limits that the statement names. -/
import Derived.Test.YtfobgmecnlehaaaFaFbGaGaVGbGcGdGe
import Derived.Test.YtfobgmecnlehaaaEo
set_option linter.unusedVariables false
set_option linter.unusedSimpArgs false
set_option maxRecDepth 100000
namespace Go.Proofs.Ytfobgmecnlehaaa
open Go.Lg Go.ChangeShapes Go.WideShapes Go.ChangeAt Go.RowKit
attribute [local irreducible] bodyH funS
theorem csW_sound:SoundS Try.prog csW:=ctrs_sound (by
 intro x hx
 simp at hx
 rcases hx with rfl | rfl | rfl | rfl
 ·exact ru_ok
 ·exact ck_ok
 ·exact ra_ok
 ·exact aw_ok)
theorem l6_does (a:Act) (n:Nat) (f:Nat→Yr) (u v w:Int) (hu:(Lit.int .u8 u).wf=true) (hv:(Lit.int .u8 v).wf=true) (hw:(Lit.int .u8 w).wf=true):Does Try.prog 6 false (SV.denL [a.sv,yrL n f,.int .u8 u,.int .u8 v,.int .u8 w]) (.sc (.bool true)):=by
 obtain ⟨s,K,lo,c,d,hh⟩:=l6_true a n f u v w (u8_of hu) (u8_of hv) (u8_of hw)
 unfold l6G at hh
 exact funH_does csW_sound nilS_x nilS_ic mixed hh
theorem l6_lifted (os:Os) (started:os.Started) (H:Type) (enc:TypeId × Value→H) :
  ReturnsInHanded {} Try.checked os 6 .any (Rows.scaleWholeSpec.pre6 enc Try.prog Try.f6 Rows.scaleWholeRow.domain false) (Rows.scaleWholeSpec.post enc Try.prog Try.f6 false true false false):=by
 refine returnsInHanded_of_change (C:=Try.checked) own started (by kernel_rfl) Try.func6
  (ChangeSpec.witness6 (enc:=enc) (C:=Try.checked) false ⟨#[],#[.agg #[.int .i64 0,.int .i64 0,.int .i64 0,.int .i64 0,.int .i64 0,.int .i64 0],.slice none 0 0,.int .u8 0,.int .u8 0,.int .u8 0],[]⟩ 8 (by kernel_rfl) (by kernel_rfl) (by kernel_rfl) (by kernel_rfl)) ?_
 intro W base args ds gs before hval0 hW hcnd _
 have hval:∀ (j:Nat) t v,Try.f6.params[j]?=some t→args[j]?=some v→Value.okWide Try.prog W .any base t v:=hval0
 have hW0:DataW.Whole enc Try.prog Try.f6.params.toList Rows.scaleWholeSpec.vars false W args.toList ds gs before:=hW
 obtain ⟨p,q,hA0,hV,rfl,hfz,hnd⟩:=hW
 have hA:DataW.TrodAll enc Try.prog W 0 (fun _=>true) true Try.f6.params.toList args.toList ds p:=hA0
 rw [Try.params6] at hA hval
 obtain ⟨v0,vs0,d0,ds0,p0,q0,hargs,rfl,rfl,h0,hA⟩:=trodAll_cons hA
 obtain ⟨v1,vs1,d1,ds1,p1,q1,rfl,rfl,rfl,h1,hA⟩:=trodAll_cons hA
 obtain ⟨v2,vs2,d2,ds2,p2,q2,rfl,rfl,rfl,h2,hA⟩:=trodAll_cons hA
 obtain ⟨v3,vs3,d3,ds3,p3,q3,rfl,rfl,rfl,h3,hA⟩:=trodAll_cons hA
 obtain ⟨v4,vs4,d4,ds4,p4,q4,rfl,rfl,rfl,h4,hA⟩:=trodAll_cons hA
 obtain ⟨rfl,rfl,rfl⟩:=trodAll_nil hA
 have hargs:args=#[v0,v1,v2,v3,v4]:=by cases args; simp_all
 subst hargs
 obtain ⟨rfl,rfl⟩:=trodVars_none hV
 obtain ⟨a,hr0⟩:=read_act (hval 0 23 v0 rfl rfl) h0
 obtain ⟨n,f,hr1⟩:=read_yrs (hval 1 29 v1 rfl rfl) h1
 obtain ⟨u,rfl,rfl,rfl,wu⟩:=open_int Try.underlying5 (hval 2 5 v2 rfl rfl) h2
 obtain ⟨v,rfl,rfl,rfl,wv⟩:=open_int Try.underlying5 (hval 3 5 v3 rfl rfl) h3
 obtain ⟨w,rfl,rfl,rfl,ww⟩:=open_int Try.underlying5 (hval 4 5 v4 rfl rfl) h4
 have hd:=l6_does a n f u v w wu wv ww
 refine law_calls laid (f:=6) (fn:=Try.f6) (tb:=4) (by
  rw [Try.params6]
  intro t ht
  simp at ht
  rcases ht with rfl | rfl | rfl <;> exact rdb _ (by kernel_rfl)) rfl (by kernel_rfl) Try.underlying4 rfl hW0 ?_ hd
 exact RelL.mk hr0 (RelL.mk hr1 (RelL.mk (.sc _) (RelL.mk (.sc _) (RelL.mk (.sc _) RelL.mk_nil))))
theorem scale_whole_holds:Rows.ScaleWholeSaid :=
 OpenClaim.holds_of_wide 6 Try.f6 rfl rfl rfl rfl rfl rfl rfl ⟨rfl,rfl,rfl,rfl,rfl⟩ rfl rfl rfl rfl rfl (by kernel_rfl) Try.func6 (by kernel_rfl)
  (of_decide_eq_true (by kernel_rfl)) (by unfold Func.isWrapper; first | (rw [if_pos (by decide +kernel)]; kernel_rfl) | (rw [if_neg (by decide +kernel)]; exact ⟨rfl,rfl⟩))
  (fun os started H enc _=>l6_lifted os started H enc)
end Go.Proofs.Ytfobgmecnlehaaa
