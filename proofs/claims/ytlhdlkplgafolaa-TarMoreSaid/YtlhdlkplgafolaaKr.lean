/- TarMore: with more in stock, better sales or a cheaper still a yard has no less income, and a still that is never worked makes no difference: the program by a symbolic walk, with Plan named by its yard at each call; Kl, Kn and Kq hold the mathematics -/
import Derived.Test.YtlhdlkplgafolaaRows
import Derived.Test.YtlhdlkplgafolaaKoKpKpVKs
import Derived.Test.YtlhdlkplgafolaaIgJr
set_option linter.unusedVariables false
set_option linter.unusedSimpArgs false
set_option maxRecDepth 100000
namespace Go.Proofs.Ytlhdlkplgafolaa
open Go.Lg Go.ChangeShapes Go.WideShapes Go.ChangeAt Go.RowKit
attribute [local irreducible] bodyH funS
theorem csM_sound:SoundS Try.prog csM:=csZ_sound (ctrs_sound (by
 intro x hx
 simp at hx
 rcases hx with rfl | rfl | rfl
 ·exact lg_ok
 ·exact aw_ok
 ·exact ry_ok))
theorem tm_does {Y:Yd} {w b:Int} (hw:(Lit.int .u8 w).wf=true) (hb:(Lit.int .u8 b).wf=true):Does Try.prog 7 false (SV.denL [Y.sv,.int .u8 w,.int .u8 b]) (.sc (.bool true)):=by
 have hh:=tm_true (Y:=Y) (u8_of hw) (u8_of hb)
 unfold tmG at hh
 exact funH_does csM_sound (litD_sound nilS_x) nilS_ic mixed hh
theorem tm_lifted (os:Os) (started:os.Started) (H:Type) (enc:TypeId × Value→H) :
  ReturnsInHanded {} Try.checked os 7 .any (Rows.tarMoreSpec.pre6 enc Try.prog Try.f7 Rows.tarMoreRow.domain false) (Rows.tarMoreSpec.post enc Try.prog Try.f7 false true false false):=by
 refine returnsInHanded_of_change (C:=Try.checked) own started (by kernel_rfl) Try.func7
  (ChangeSpec.witness6 (enc:=enc) (C:=Try.checked) false ⟨#[],#[.agg #[.slice none 0 0,.slice none 0 0,.slice none 0 0],.int .u8 0,.int .u8 0],[]⟩ 6 (by kernel_rfl) (by kernel_rfl) (by kernel_rfl) (by kernel_rfl)) ?_
 intro W base args ds gs before hval0 hW hcnd _
 have hval:∀ (j:Nat) t v,Try.f7.params[j]?=some t→args[j]?=some v→Value.okWide Try.prog W .any base t v:=hval0
 have hW0:DataW.Whole enc Try.prog Try.f7.params.toList Rows.tarMoreSpec.vars false W args.toList ds gs before:=hW
 obtain ⟨p,q,hA0,hV,rfl,hfz,hnd⟩:=hW
 have hA:DataW.TrodAll enc Try.prog W 0 (fun _=>true) true Try.f7.params.toList args.toList ds p:=hA0
 rw [Try.params7] at hA hval
 obtain ⟨v0,v1,v2,d0,d1,d2,p0,p1,p2,rfl,rfl,rfl,h0,h1,h2⟩:=trodAll_three hA
 obtain ⟨rfl,rfl⟩:=trodVars_none hV
 obtain ⟨Y,hr0⟩:=read_yd (hval 0 26 v0 rfl rfl) h0
 obtain ⟨e,rfl,rfl,rfl,we⟩:=open_int Try.underlying5 (hval 1 5 v1 rfl rfl) h1
 obtain ⟨f,rfl,rfl,rfl,wf⟩:=open_int Try.underlying5 (hval 2 5 v2 rfl rfl) h2
 have hd:=tm_does (Y:=Y) (w:=e) (b:=f) we wf
 refine law_calls laid (f:=7) (fn:=Try.f7) (tb:=4) (by
  rw [Try.params7]
  intro t ht
  simp at ht
  rcases ht with rfl | rfl <;> exact rdb _ (by kernel_rfl)) rfl (by kernel_rfl) Try.underlying4 rfl hW0 ?_ hd
 exact RelL.mk hr0 (RelL.mk (.sc _) (RelL.mk (.sc _) RelL.mk_nil))
theorem tar_more_holds:Rows.TarMoreSaid :=
 OpenClaim.holds_of_wide 7 Try.f7 rfl rfl rfl rfl rfl rfl rfl ⟨rfl,rfl,rfl,rfl,rfl⟩ rfl rfl rfl rfl rfl (by kernel_rfl) Try.func7 (by kernel_rfl)
  (of_decide_eq_true (by kernel_rfl)) (by unfold Func.isWrapper; first | (rw [if_pos (by decide +kernel)]; kernel_rfl) | (rw [if_neg (by decide +kernel)]; exact ⟨rfl,rfl⟩))
  (fun os started H enc _=>tm_lifted os started H enc)
end Go.Proofs.Ytlhdlkplgafolaa
