/- For every network and every number: what Lay returns is enough and no other set that is cheaper, or as cheap and less, is; what Must returns is in each set that is enough. Networks of more than 8 mains are let through as the statement does; no further condition. -/
import Derived.Test.YtpannbkmpbioiaaRows
import Derived.Test.YtpannbkmpbioiaaOaOaVObOc
import Derived.Test.YtpannbkmpbioiaaRh
set_option linter.unusedVariables false
set_option linter.unusedSimpArgs false
set_option maxRecDepth 100000
namespace Go.Proofs.Ytpannbkmpbioiaa
open Go.Lg Go.ChangeShapes Go.WideShapes Go.ChangeAt Go.RowKit
attribute [local irreducible] bodyH
variable {H : Type} {enc : TypeId × Value → H} {w : World}
theorem eno_sound : SoundS Try.prog csEno := ctrsF_sound (ctrs_sound (by
  intro x hx
  simp only [List.mem_cons, List.not_mem_nil, or_false] at hx
  rcases hx with rfl | rfl | rfl | rfl | rfl
  · exact big_ok
  · exact alive_ok
  · exact vnet23
  · exact has_ok
  · exact Flt_ok)) (by
  intro x hx
  simp only [List.mem_cons, List.not_mem_nil, or_false] at hx
  rcases hx with rfl | rfl | rfl
  · exact layP_ok
  · exact musP_ok
  · exact wit_ok)
theorem eno_does (x : Nw) (b : Int) (hb : 0 ≤ b ∧ b < 256) : Does Try.prog 8 false (SV.denL [x.sv, ou8 b]) (.sc (.bool true)) := by
  have hh := eno_true (w := x) hb
  unfold enoG at hh
  exact funH_does eno_sound nil_x nil_ic mixed hh
theorem ou8_in {a : Int} (h : (Lit.int .u8 a).wf = true) : 0 ≤ a ∧ a < 256 := by
  simp only [Lit.wf, Bool.and_eq_true, decide_eq_true_eq, IntKind.min, IntKind.max, IntKind.signed, IntKind.bits, Bool.false_eq_true, if_false] at h
  omega
theorem oread5 : Try.prog.readableRec 5 = true ∧ 5 < Try.prog.types.size := ⟨by kernel_rfl, of_decide_eq_true (by kernel_rfl)⟩
theorem eno_lifted (os : Os) (started : os.Started) (H : Type) (enc : TypeId × Value → H) :
    ReturnsInHanded {} Try.checked os 8 .any (Rows.pipeEnoughSpec.pre6 enc Try.prog Try.f8 Rows.pipeEnoughRow.domain false) (Rows.pipeEnoughSpec.post enc Try.prog Try.f8 false true false false) := by
  refine returnsInHanded_of_change (C := Try.checked) own started (by kernel_rfl) Try.func8
    (ChangeSpec.witness6 (enc := enc) (C := Try.checked) false ⟨#[], #[.agg #[.int .i64 0, .int .i64 0, .slice none 0 0, .slice none 0 0], .int .u8 0], []⟩ 8 (by kernel_rfl) (by kernel_rfl) (by kernel_rfl) (by kernel_rfl)) ?_
  intro W base args ds gs before hval0 hW hcnd _
  have hval : ∀ (j : Nat) t v, Try.f8.params[j]? = some t → args[j]? = some v → Value.okWide Try.prog W .any base t v := hval0
  have hW0 : DataW.Whole enc Try.prog Try.f8.params.toList Rows.pipeEnoughSpec.vars false W args.toList ds gs before := hW
  obtain ⟨p, q, hA0, hV, rfl, hfz, hnd⟩ := hW
  have hA : DataW.TrodAll enc Try.prog W 0 (fun _ => true) true Try.f8.params.toList args.toList ds p := hA0
  rw [Try.params8] at hA hval
  obtain ⟨v0, v1, d0, d1, p0, p1, rfl, rfl, rfl, h0, h1⟩ := trodAll_two hA
  obtain ⟨rfl, rfl⟩ := trodVars_none hV
  obtain ⟨x, hr0⟩ := read_net (hval 0 27 v0 rfl rfl) h0
  obtain ⟨b, rfl, rfl, rfl, wb⟩ := open_int Try.underlying5 (hval 1 5 v1 rfl rfl) h1
  have hd := eno_does x b (ou8_in wb)
  refine law_calls laid (f := 8) (fn := Try.f8) (tb := 4) (by
    rw [Try.params8]
    intro t ht
    simp at ht
    rcases ht with rfl | rfl
    · exact read27
    · exact oread5) rfl (by kernel_rfl) Try.underlying4 rfl hW0 ?_ hd
  exact RelL.mk hr0 (RelL.mk (.sc _) RelL.mk_nil)

theorem pipe_enough_holds : Rows.PipeEnoughSaid :=
  OpenClaim.holds_of_wide 8 Try.f8 rfl rfl rfl rfl rfl rfl rfl ⟨rfl, rfl, rfl, rfl, rfl⟩ rfl rfl rfl rfl rfl (by kernel_rfl) Try.func8 (by kernel_rfl)
    (of_decide_eq_true (by kernel_rfl)) (by unfold Func.isWrapper; first | (rw [if_pos (by decide +kernel)]; kernel_rfl) | (rw [if_neg (by decide +kernel)]; exact ⟨rfl, rfl⟩))
    (fun os started H enc _ => eno_lifted os started H enc)
end Go.Proofs.Ytpannbkmpbioiaa
