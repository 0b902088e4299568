/- The statement PipeMore of layer 6 (pipe) holds of the code at its commit: for all networks, all junctions and all numbers by which more is drawn, the law returns true. There are no conditions but the ones that the statement has. -/
import Derived.Test.YtpannbkmpbioiaaRows
import Derived.Test.YtpannbkmpbioiaaUaUaVUcUeUcVUfUg
import Derived.Test.YtpannbkmpbioiaaQoQoV
set_option linter.unusedVariables false
set_option maxRecDepth 100000
namespace Go.Proofs.Ytpannbkmpbioiaa
open Go Go.Lg
attribute [local irreducible] bodyH
theorem dr_0 {m : Mn} {o i : Nat} : m.dr i = drM m o 0 i := by
  unfold drM; rw [if_neg fun h => absurd h.1 (Nat.not_lt_zero i)]
theorem dr_at {m : Mn} {o k : Nat} : drM m o k k = m.dr k := by
  unfold drM; rw [if_neg fun h => absurd h.1 (Nat.lt_irrefl k)]
theorem dr_s {m : Mn} {o k i : Nat} (h : hs o k) : (if i = k then drH (m.dr k) else drM m o k i) = drM m o (k + 1) i := by
  by_cases e : i = k
  · subst e
    rw [if_pos rfl]
    unfold drM; rw [if_pos ⟨by omega, h⟩]
  · rw [if_neg e]
    unfold drM
    congr 1
    apply propext
    exact ⟨fun h => ⟨by have := h.1; omega, h.2⟩, fun h => ⟨by have := h.1; omega, h.2⟩⟩
theorem dr_n {m : Mn} {o k i : Nat} (h : ¬ hs o k) : drM m o k i = drM m o (k + 1) i := by
  unfold drM
  congr 1
  apply propext
  exact ⟨fun h => ⟨by have := h.1; omega, h.2⟩, fun h' => ⟨by
    have := h'.1
    rcases Nat.lt_succ_iff_lt_or_eq.1 this with h2 | h2
    · exact h2
    · exact absurd h'.2 (by rw [h2]; exact h), h'.2⟩⟩
theorem with_true {w : Nw} {o : Int} (h : okWi w o) : withG w o := by
  rw [withG_vc]
  have hn := h.w.n
  have ho := h.o
  simp only [and_true, true_and, Nat.zero_lt_one, implies_true, Int.toNat_natCast, imp_false, and_self, Nat.zero_add, Nat.add_zero, Nat.not_lt_zero, if_false, Nat.sub_zero, ite_self, dr_at]
  refine ⟨by omega, by omega, ⟨0, by omega, rfl, fun i hi => dr_0⟩, fun z hz => ⟨fun hl => ⟨⟨ho, by omega, by omega⟩, fun hh => ?_, fun hh => ⟨by omega, z + 1, by omega, by omega, by omega, fun i hi => dr_n hh⟩⟩, fun hl => ?_⟩⟩
  · have hd := (h.w.ms z (by omega)).dr
    have e : (w.m.dr z + 1).tdiv 2 = (w.m.dr z + 1) / 2 := Int.tdiv_eq_ediv_of_nonneg (by omega)
    have b1 : 0 ≤ (w.m.dr z + 1).tdiv 2 ∧ (w.m.dr z + 1).tdiv 2 ≤ 1000 := by rw [e]; omega
    exact ⟨by omega, hl, by omega, by omega, by omega, by omega, by omega, hl, by omega, by omega, by omega, z + 1, by omega, by omega, by omega, fun i hi => dr_s hh⟩
  · have : z = w.m.n := by omega
    subst this
    exact ⟨rfl, fun i hi => rfl, Nat.le_refl _, fun i hi => rfl⟩
theorem with_ok : withC.OkF Try.prog := netC_okF (by kernel_rfl) fun w r k hk => by
  split at hk
  · rename_i o
    have hh := with_true hk.1
    unfold withG at hh
    exact ⟨_, funH_does csHas nil_x nil_ic mixed hh, hk.2⟩
  · exact hk.elim
end Go.Proofs.Ytpannbkmpbioiaa

set_option linter.unusedVariables false
set_option maxRecDepth 100000
namespace Go.Proofs.Ytpannbkmpbioiaa
open Go.Lg Go.ChangeShapes Go.WideShapes Go.ChangeAt Go.RowKit
attribute [local irreducible] bodyH
variable {H : Type} {enc : TypeId × Value → H} {w : World}
theorem more_sound : SoundS Try.prog csM := ctrsF_sound (ctrs_sound (by
  intro x hx
  simp only [List.mem_cons, List.not_mem_nil, or_false] at hx
  rcases hx with rfl | rfl | rfl | rfl | rfl | rfl
  · exact big_ok
  · exact alive_ok
  · exact Pre_ok
  · exact Fed_ok
  · exact vnet23
  · exact spn_ok)) (by
  intro x hx
  simp only [List.mem_cons, List.not_mem_nil, or_false] at hx
  subst hx
  exact with_ok)
theorem more_does (x : Nw) (z a b : Int) (ha : 0 ≤ a ∧ a < 256) (hb : 0 ≤ b ∧ b < 256) : Does Try.prog 7 false (SV.denL [x.sv, i6 z, u8 a, u8 b]) (.sc (.bool true)) := by
  have hh := more_true (w := x) (z := z) ha hb
  unfold moreG at hh
  exact funH_does more_sound nil_x nil_ic mixed hh
theorem u8_in {a : Int} (h : (Lit.int .u8 a).wf = true) : 0 ≤ a ∧ a < 256 := by
  simp only [Lit.wf, Bool.and_eq_true, decide_eq_true_eq, IntKind.min, IntKind.max, IntKind.signed, IntKind.bits, Bool.false_eq_true, if_false] at h
  omega
theorem read5 : Try.prog.readableRec 5 = true ∧ 5 < Try.prog.types.size := ⟨by kernel_rfl, of_decide_eq_true (by kernel_rfl)⟩
theorem more_lifted (os : Os) (started : os.Started) (H : Type) (enc : TypeId × Value → H) :
    ReturnsInHanded {} Try.checked os 7 .any (Rows.pipeMoreSpec.pre6 enc Try.prog Try.f7 Rows.pipeMoreRow.domain false) (Rows.pipeMoreSpec.post enc Try.prog Try.f7 false true false false) := by
  refine returnsInHanded_of_change (C := Try.checked) own started (by kernel_rfl) Try.func7
    (ChangeSpec.witness6 (enc := enc) (C := Try.checked) false ⟨#[], #[.agg #[.int .i64 0, .int .i64 0, .slice none 0 0, .slice none 0 0], .int .i64 0, .int .u8 0, .int .u8 0], []⟩ 8 (by kernel_rfl) (by kernel_rfl) (by kernel_rfl) (by kernel_rfl)) ?_
  intro W base args ds gs before hval0 hW hcnd _
  have hval : ∀ (j : Nat) t v, Try.f7.params[j]? = some t → args[j]? = some v → Value.okWide Try.prog W .any base t v := hval0
  have hW0 : DataW.Whole enc Try.prog Try.f7.params.toList Rows.pipeMoreSpec.vars false W args.toList ds gs before := hW
  obtain ⟨p, q, hA0, hV, rfl, hfz, hnd⟩ := hW
  have hA : DataW.TrodAll enc Try.prog W 0 (fun _ => true) true Try.f7.params.toList args.toList ds p := hA0
  rw [Try.params7] at hA hval
  obtain ⟨v0, v1, v2, v3, d0, d1, d2, d3, p0, p1, p2, p3, rfl, rfl, rfl, h0, h1, h2, h3⟩ := trodAll_four hA
  obtain ⟨rfl, rfl⟩ := trodVars_none hV
  obtain ⟨x, hr0⟩ := read_net (hval 0 27 v0 rfl rfl) h0
  obtain ⟨z, rfl, rfl, rfl, wz⟩ := open_int Try.underlying3 (hval 1 3 v1 rfl rfl) h1
  obtain ⟨a, rfl, rfl, rfl, wa⟩ := open_int Try.underlying5 (hval 2 5 v2 rfl rfl) h2
  obtain ⟨b, rfl, rfl, rfl, wb⟩ := open_int Try.underlying5 (hval 3 5 v3 rfl rfl) h3
  have hd := more_does x z a b (u8_in wa) (u8_in wb)
  refine law_calls laid (f := 7) (fn := Try.f7) (tb := 4) (by
    rw [Try.params7]
    intro t ht
    simp at ht
    rcases ht with rfl | rfl | rfl
    · exact read27
    · exact read3
    · exact read5) rfl (by kernel_rfl) Try.underlying4 rfl hW0 ?_ hd
  exact RelL.mk hr0 (RelL.mk (.sc _) (RelL.mk (.sc _) (RelL.mk (.sc _) RelL.mk_nil)))

theorem pipe_more_holds : Rows.PipeMoreSaid :=
  OpenClaim.holds_of_wide 7 Try.f7 rfl rfl rfl rfl rfl rfl rfl ⟨rfl, rfl, rfl, rfl, rfl⟩ rfl rfl rfl rfl rfl (by kernel_rfl) Try.func7 (by kernel_rfl)
    (of_decide_eq_true (by kernel_rfl)) (by unfold Func.isWrapper; first | (rw [if_pos (by decide +kernel)]; kernel_rfl) | (rw [if_neg (by decide +kernel)]; exact ⟨rfl, rfl⟩))
    (fun os started H enc _ => more_lifted os started H enc)
end Go.Proofs.Ytpannbkmpbioiaa
