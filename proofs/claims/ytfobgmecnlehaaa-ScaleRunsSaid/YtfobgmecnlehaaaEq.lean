/- Run, Check and Needed of scale return the payments, numbers and profits of the reference for all acts, years and payments within the limits that the statement names. -/
import Derived.Test.YtfobgmecnlehaaaEkEkVElEmEnEnVEp
import Derived.Test.YtfobgmecnlehaaaEo
set_option linter.unusedVariables false
set_option linter.unusedSimpArgs false
set_option maxRecDepth 100000
namespace Go.Proofs.Ytfobgmecnlehaaa
open Go.Lg Go.ChangeShapes Go.WideShapes Go.ChangeAt Go.RowKit
attribute [local irreducible] bodyH funS
theorem l4_does (a:Act) (n:Nat) (f:Nat→Yr) (m:Nat) (p:Nat→Pay) (y:Int):Does Try.prog 4 false (SV.denL [a.sv,yrL n f,pyL m p,i6 y]) (.sc (.bool true)):=by
 have hh:=l4_true a n f m p y
 unfold l4G at hh
 exact funH_does csL_sound nilS_x nilS_ic mixed hh
theorem l4_lifted (os:Os) (started:os.Started) (H:Type) (enc:TypeId × Value→H) :
  ReturnsInHanded {} Try.checked os 4 .any (Rows.scaleRunsSpec.pre6 enc Try.prog Try.f4 Rows.scaleRunsRow.domain false) (Rows.scaleRunsSpec.post enc Try.prog Try.f4 false true false false):=by
 refine returnsInHanded_of_change (C:=Try.checked) own started (by kernel_rfl) Try.func4
  (ChangeSpec.witness6 (enc:=enc) (C:=Try.checked) false ⟨#[],#[.agg #[.int .i64 0,.int .i64 0,.int .i64 0,.int .i64 0,.int .i64 0,.int .i64 0],.slice none 0 0,.slice none 0 0,.int .i64 0],[]⟩ 8 (by kernel_rfl) (by kernel_rfl) (by kernel_rfl) (by kernel_rfl)) ?_
 intro W base args ds gs before hval0 hW hcnd _
 have hval:∀ (j:Nat) t v,Try.f4.params[j]?=some t→args[j]?=some v→Value.okWide Try.prog W .any base t v:=hval0
 have hW0:DataW.Whole enc Try.prog Try.f4.params.toList Rows.scaleRunsSpec.vars false W args.toList ds gs before:=hW
 obtain ⟨p,q,hA0,hV,rfl,hfz,hnd⟩:=hW
 have hA:DataW.TrodAll enc Try.prog W 0 (fun _=>true) true Try.f4.params.toList args.toList ds p:=hA0
 rw [Try.params4] at hA hval
 obtain ⟨v0,v1,v2,v3,d0,d1,d2,d3,p0,p1,p2,p3,rfl,rfl,rfl,h0,h1,h2,h3⟩:=trodAll_four hA
 obtain ⟨rfl,rfl⟩:=trodVars_none hV
 obtain ⟨a,hr0⟩:=read_act (hval 0 23 v0 rfl rfl) h0
 obtain ⟨n,f,hr1⟩:=read_yrs (hval 1 29 v1 rfl rfl) h1
 obtain ⟨m,g,hr2⟩:=read_pys (hval 2 30 v2 rfl rfl) h2
 obtain ⟨y,rfl,rfl,rfl,wy⟩:=open_int Try.underlying3 (hval 3 3 v3 rfl rfl) h3
 have hd:=l4_does a n f m g y
 refine law_calls laid (f:=4) (fn:=Try.f4) (tb:=4) (by
  rw [Try.params4]
  intro t ht
  simp at ht
  rcases ht with rfl | rfl | rfl | rfl <;> exact rdb _ (by kernel_rfl)) rfl (by kernel_rfl) Try.underlying4 rfl hW0 ?_ hd
 exact RelL.mk hr0 (RelL.mk hr1 (RelL.mk hr2 (RelL.mk (.sc _) RelL.mk_nil)))
theorem scale_runs_holds:Rows.ScaleRunsSaid :=
 OpenClaim.holds_of_wide 4 Try.f4 rfl rfl rfl rfl rfl rfl rfl ⟨rfl,rfl,rfl,rfl,rfl⟩ rfl rfl rfl rfl rfl (by kernel_rfl) Try.func4 (by kernel_rfl)
  (of_decide_eq_true (by kernel_rfl)) (by unfold Func.isWrapper; first | (rw [if_pos (by decide +kernel)]; kernel_rfl) | (rw [if_neg (by decide +kernel)]; exact ⟨rfl,rfl⟩))
  (fun os started H enc _=>l4_lifted os started H enc)
end Go.Proofs.Ytfobgmecnlehaaa
