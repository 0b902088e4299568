/- The plan of the program can be worked, has the income that it says, and no other plan that can be has a greater one, or the same one and comes before it. -/
import Derived.Test.YtifjghgejnkdoaaRows
import Derived.Test.YtifjghgejnkdoaaJpJpVJqtJq
import Derived.Test.YtifjghgejnkdoaaIgJr
set_option linter.unusedVariables false
set_option linter.unusedSimpArgs false
set_option maxRecDepth 100000
namespace Go.Proofs.Ytifjghgejnkdoaa
open Go.Lg Go.ChangeShapes Go.WideShapes Go.ChangeAt Go.RowKit
attribute [local irreducible] bodyH funS
theorem bt_does {Y:Yd} {m:Nat} {b:Nat→Int} (hb:∀ i,i<m→(Lit.int .u8 (b i)).wf=true):Does Try.prog 6 false (SV.denL [Y.sv,uL .u8 m b]) (.sc (.bool true)):=by
 have hh:=bt_true (Y:=Y) (m:=m) (b:=b) fun i hi=>u8_of (hb i hi)
 unfold btG at hh
 exact funH_does csB_sound nilS_x nilS_ic mixed hh
theorem bt_lifted (os:Os) (started:os.Started) (H:Type) (enc:TypeId × Value→H) :
  ReturnsInHanded {} Try.checked os 6 .any (Rows.tarBestSpec.pre6 enc Try.prog Try.f6 Rows.tarBestRow.domain false) (Rows.tarBestSpec.post enc Try.prog Try.f6 false true false false):=by
 refine returnsInHanded_of_change (C:=Try.checked) own started (by kernel_rfl) Try.func6
  (ChangeSpec.witness6 (enc:=enc) (C:=Try.checked) false ⟨#[],#[.agg #[.slice none 0 0,.slice none 0 0,.slice none 0 0],.slice none 0 0],[]⟩ 6 (by kernel_rfl) (by kernel_rfl) (by kernel_rfl) (by kernel_rfl)) ?_
 intro W base args ds gs before hval0 hW hcnd _
 have hval:∀ (j:Nat) t v,Try.f6.params[j]?=some t→args[j]?=some v→Value.okWide Try.prog W .any base t v:=hval0
 have hW0:DataW.Whole enc Try.prog Try.f6.params.toList Rows.tarBestSpec.vars false W args.toList ds gs before:=hW
 obtain ⟨p,q,hA0,hV,rfl,hfz,hnd⟩:=hW
 have hA:DataW.TrodAll enc Try.prog W 0 (fun _=>true) true Try.f6.params.toList args.toList ds p:=hA0
 rw [Try.params6] at hA hval
 obtain ⟨v0,v1,d0,d1,p0,p1,rfl,rfl,rfl,h0,h1⟩:=trodAll_two hA
 obtain ⟨rfl,rfl⟩:=trodVars_none hV
 obtain ⟨Y,hr0⟩:=read_yd (hval 0 26 v0 rfl rfl) h0
 obtain ⟨m,b,hb,hr1⟩:=read_ul (K:=.u8) Try.underlying53 Try.underlying5 (by kernel_rfl) (hval 1 53 v1 rfl rfl) h1
 have hd:=bt_does (Y:=Y) (m:=m) (b:=b) hb
 refine law_calls laid (f:=6) (fn:=Try.f6) (tb:=4) (by
  rw [Try.params6]
  intro t ht
  simp at ht
  rcases ht with rfl | rfl <;> exact rdb _ (by kernel_rfl)) rfl (by kernel_rfl) Try.underlying4 rfl hW0 ?_ hd
 exact RelL.mk hr0 (RelL.mk hr1 RelL.mk_nil)
theorem tar_best_holds:Rows.TarBestSaid :=
 OpenClaim.holds_of_wide 6 Try.f6 rfl rfl rfl rfl rfl rfl rfl ⟨rfl,rfl,rfl,rfl,rfl⟩ rfl rfl rfl rfl rfl (by kernel_rfl) Try.func6 (by kernel_rfl)
  (of_decide_eq_true (by kernel_rfl)) (by unfold Func.isWrapper; first | (rw [if_pos (by decide +kernel)]; kernel_rfl) | (rw [if_neg (by decide +kernel)]; exact ⟨rfl,rfl⟩))
  (fun os started H enc _=>bt_lifted os started H enc)
end Go.Proofs.Ytifjghgejnkdoaa
