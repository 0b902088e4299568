/- Scale: what Pay answers with is nobody else's -/
import Derived.Test.YtfobgmecnlehaaaGgGgVGh
import Derived.Test.YtfobgmecnlehaaaEo
set_option linter.unusedVariables false
set_option linter.unusedSimpArgs false
set_option maxRecDepth 100000
namespace Go.Proofs.Ytfobgmecnlehaaa
open Go.Lg Go.ChangeShapes Go.WideShapes Go.ChangeAt Go.RowKit
attribute [local irreducible] bodyH funS
theorem csO_sound:SoundS Try.prog csO:=ctrsF_sound (ctrs_sound (by
 intro x hx
 simp at hx
 rcases hx with rfl | rfl | rfl | rfl | rfl
 ·exact fa_ok
 ·exact ck_ok
 ·exact ne_ok
 ·exact pa_ok
 ·exact aw_ok)) (by intro x hx; simp at hx; subst hx; exact pm_ok)
theorem cxO_sound (a:Act) (n:Nat) (f:Nat→Yr) (m:Nat) (p:Nat→Pay) (N:Nat):SoundXH Try.prog noGhost γ0 (cxO a n f m p N):=inl_sound (ys:=none) csO_sound noX_sound trivial it_ic mixed
theorem l9_does (a:Act) (n:Nat) (f:Nat→Yr) (m:Nat) (p:Nat→Pay):Does Try.prog 9 false (SV.denL [a.sv,yrL n f,pyL m p]) (.sc (.bool true)):=by
 have hh:=l9_true a n f m p
 unfold l9G at hh
 exact funH_does csO_sound (cxO_sound a n f m p _) nilS_ic mixed hh
theorem l9_lifted (os:Os) (started:os.Started) (H:Type) (enc:TypeId × Value→H) :
  ReturnsInHanded {} Try.checked os 9 .any (Rows.scaleOwnsSpec.pre6 enc Try.prog Try.f9 Rows.scaleOwnsRow.domain false) (Rows.scaleOwnsSpec.post enc Try.prog Try.f9 false true false false):=by
 refine returnsInHanded_of_change (C:=Try.checked) own started (by kernel_rfl) Try.func9
  (ChangeSpec.witness6 (enc:=enc) (C:=Try.checked) false ⟨#[],#[.agg #[.int .i64 0,.int .i64 0,.int .i64 0,.int .i64 0,.int .i64 0,.int .i64 0],.slice none 0 0,.slice none 0 0],[]⟩ 8 (by kernel_rfl) (by kernel_rfl) (by kernel_rfl) (by kernel_rfl)) ?_
 intro W base args ds gs before hval0 hW hcnd _
 have hval:∀ (j:Nat) t v,Try.f9.params[j]?=some t→args[j]?=some v→Value.okWide Try.prog W .any base t v:=hval0
 have hW0:DataW.Whole enc Try.prog Try.f9.params.toList Rows.scaleOwnsSpec.vars false W args.toList ds gs before:=hW
 obtain ⟨p,q,hA0,hV,rfl,hfz,hnd⟩:=hW
 have hA:DataW.TrodAll enc Try.prog W 0 (fun _=>true) true Try.f9.params.toList args.toList ds p:=hA0
 rw [Try.params9] at hA hval
 obtain ⟨v0,v1,v2,d0,d1,d2,p0,p1,p2,rfl,rfl,rfl,h0,h1,h2⟩:=trodAll_three hA
 obtain ⟨rfl,rfl⟩:=trodVars_none hV
 obtain ⟨a,hr0⟩:=read_act (hval 0 23 v0 rfl rfl) h0
 obtain ⟨n,f,hr1⟩:=read_yrs (hval 1 29 v1 rfl rfl) h1
 obtain ⟨m,g,hr2⟩:=read_pys (hval 2 30 v2 rfl rfl) h2
 have hd:=l9_does a n f m g
 refine law_calls laid (f:=9) (fn:=Try.f9) (tb:=4) (by
  rw [Try.params9]
  intro t ht
  simp at ht
  rcases ht with rfl | rfl | rfl <;> exact rdb _ (by kernel_rfl)) rfl (by kernel_rfl) Try.underlying4 rfl hW0 ?_ hd
 exact RelL.mk hr0 (RelL.mk hr1 (RelL.mk hr2 RelL.mk_nil))
theorem scale_owns_holds:Rows.ScaleOwnsSaid :=
 OpenClaim.holds_of_wide 9 Try.f9 rfl rfl rfl rfl rfl rfl rfl ⟨rfl,rfl,rfl,rfl,rfl⟩ rfl rfl rfl rfl rfl (by kernel_rfl) Try.func9 (by kernel_rfl)
  (of_decide_eq_true (by kernel_rfl)) (by unfold Func.isWrapper; first | (rw [if_pos (by decide +kernel)]; kernel_rfl) | (rw [if_neg (by decide +kernel)]; exact ⟨rfl,rfl⟩))
  (fun os started H enc _=>l9_lifted os started H enc)
end Go.Proofs.Ytfobgmecnlehaaa
