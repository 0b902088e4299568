/- HeatDue: for every decree, list of tests, hour and list of numbers the law returns true, and leaves its arguments as they were. No condition. -/
import Derived.Test.YtgidaaogknikoaaRows
import Derived.Test.YtgidaaogknikoaaGpVGqGr
import Derived.Test.YtgidaaogknikoaaGn
set_option linter.unusedVariables false
set_option linter.unusedSimpArgs false
set_option maxRecDepth 100000
namespace Go.Proofs.Ytgidaaogknikoaa
open Go.Lg Go.ChangeShapes Go.WideShapes Go.ChangeAt Go.RowKit
attribute [local irreducible] bodyH funS
variable {H : Type} {enc : TypeId × Value → H} {w : World}
abbrev U2 : Type := { z : Int // 0 ≤ z ∧ z < 65536 }
def U2.cs (m : U2) : List Value := [.int .u16 m.1]
def U2.av (m : U2) : AV := .sc (.int .u16 m.1)
theorem read_u (n : Nat) (cs : List Value) (y : DataW H × List MemPlace) (h : DataW.trod enc Try.prog w 0 (fun _ => true) true n 47 cs = some y) : ∃ m : U2, cs = U2.cs m ∧ (U2.cs m).length = 1 := by
  obtain ⟨z, h5, _, hw⟩ := DataW.trod_int Try.underlying47 h
  simp only [Lit.wf, Bool.and_eq_true, decide_eq_true_eq, IntKind.min, IntKind.max, IntKind.signed, IntKind.bits, Bool.false_eq_true, if_false] at hw
  exact ⟨⟨z, by omega, by omega⟩, h5, rfl⟩
def byOf (ms : List U2) : Bs := ⟨ms.length, fun k => (ms.getD k ⟨0, by omega⟩).1⟩
theorem by_den (ms : List U2) : (byOf ms).sv.den = .isl 1 (ms.map U2.av) := by
  simp only [byOf, Bs.sv, SV.den]
  congr 1
  apply List.ext_getElem
  · simp
  · intro i h1 h2
    simp at h1 h2
    simp [U2.av, h2]
theorem by_ok (ms : List U2) : (byOf ms).n = 0 ∨ okBs (byOf ms) := by
  by_cases h : ms.length = 0
  · exact .inl h
  · exact .inr ⟨by show 1 ≤ ms.length; omega, fun k hk => (ms.getD k ⟨0, by omega⟩).2⟩
theorem read_by {base : Nat} {v : Value} {d : DataW H} {p : List MemPlace} (hv : Value.okWide Try.prog w .any base 46 v) (h : DataW.Trod enc Try.prog w 0 (fun _ => true) true 46 v d p) :
    ∃ b : Bs, (b.n = 0 ∨ okBs b) ∧ Rel (cellf w) (fun b => b < w.heap.size) 0 noβ b.sv.den v := by
  obtain ⟨fuel, h⟩ := h
  have hc : v.cells.toList = [v] := by
    unfold Value.okWide at hv
    rw [Try.underlying46] at hv
    cases v <;> first | rfl | (simp [Cell.okWide, Cell.ok, Try.underlying46] at hv)
  rw [hc] at h
  obtain ⟨v', ms, e, hr, _, _⟩ := rel_slice U2.cs U2.av (fun m => rfl) (show Try.prog.cellsOf 47 = 1 by kernel_rfl) (by omega) Try.underlying46 read_u h
  cases e
  refine ⟨byOf ms, by_ok ms, ?_⟩
  rw [by_den]
  exact hr
theorem read46 : Try.prog.readableRec 46 = true ∧ 46 < Try.prog.types.size := ⟨by kernel_rfl, of_decide_eq_true (by kernel_rfl)⟩
theorem csU_ok : SoundS Try.prog csU := ctrs_sound (by
  intro x hx
  simp only [List.mem_cons, List.not_mem_nil, or_false] at hx
  rcases hx with rfl | rfl | rfl | rfl | rfl | rfl | rfl
  · exact ke_ok
  · exact de_ok
  · exact wo_ok
  · exact rde_ok
  · exact rts_ok
  · exact rpa_ok
  · exact alive_ok)
theorem hd_does (d : De) (T : Tl) (h : Int) (b : Bs) (hb : b.n = 0 ∨ okBs b) : Does Try.prog 7 false (SV.denL [d.sv, T.sv, i6 h, b.sv]) (.sc (.bool true)) := by
  have hh := hd_true (d := d) (T := T) (h := h) hb
  unfold hdG at hh
  exact funH_does csU_ok nilS_x nilS_ic mixed hh
theorem hd_lifted (os : Os) (started : os.Started) (H : Type) (enc : TypeId × Value → H) :
    ReturnsInHanded {} Try.checked os 7 .any (Rows.heatDueSpec.pre6 enc Try.prog Try.f7 Rows.heatDueRow.domain false) (Rows.heatDueSpec.post enc Try.prog Try.f7 false true false false) := by
  refine returnsInHanded_of_change (C := Try.checked) own started (by kernel_rfl) Try.func7
    (ChangeSpec.witness6 (enc := enc) (C := Try.checked) false ⟨#[], #[.agg #[.int .i64 0, .int .i64 0, .int .i64 0, .int .i64 0], .slice none 0 0, .int .i64 0, .slice none 0 0], []⟩ 8 (by kernel_rfl) (by kernel_rfl) (by kernel_rfl) (by kernel_rfl)) ?_
  intro W base args ds gs before hval0 hW hcnd _
  have hval : ∀ (j : Nat) t v, Try.f7.params[j]? = some t → args[j]? = some v → Value.okWide Try.prog W .any base t v := hval0
  have hW0 : DataW.Whole enc Try.prog Try.f7.params.toList Rows.heatDueSpec.vars false W args.toList ds gs before := hW
  obtain ⟨p, q, hA0, hV, rfl, hfz, hnd⟩ := hW
  have hA : DataW.TrodAll enc Try.prog W 0 (fun _ => true) true Try.f7.params.toList args.toList ds p := hA0
  rw [Try.params7] at hA hval
  obtain ⟨v0, v1, v2, v3, d0, d1, d2, d3, p0, p1, p2, p3, rfl, rfl, rfl, h0, h1, h2, h3⟩ := Go.RowKit.trodAll_four hA
  obtain ⟨rfl, rfl⟩ := trodVars_none hV
  obtain ⟨dd, _, _, _, _, hr0⟩ := read_decree (hval 0 36 v0 rfl rfl) h0
  obtain ⟨T, _, hr1⟩ := read_tests (hval 1 37 v1 rfl rfl) h1
  obtain ⟨a, rfl, rfl, rfl, wa⟩ := open_int Try.underlying3 (hval 2 3 v2 rfl rfl) h2
  obtain ⟨b, hb, hr3⟩ := read_by (hval 3 46 v3 rfl rfl) h3
  have hd := hd_does dd T a b hb
  refine law_calls laid (f := 7) (fn := Try.f7) (tb := 4) (by
    rw [Try.params7]
    intro t ht
    simp at ht
    rcases ht with rfl | rfl | rfl | rfl
    · exact read36
    · exact read37
    · exact read3
    · exact read46) rfl (by kernel_rfl) Try.underlying4 rfl hW0 ?_ hd
  exact RelL.mk hr0 (RelL.mk hr1 (RelL.mk (.sc _) (RelL.mk hr3 RelL.mk_nil)))
theorem heat_due_holds : Rows.HeatDueSaid :=
  OpenClaim.holds_of_wide 7 Try.f7 rfl rfl rfl rfl rfl rfl rfl ⟨rfl, rfl, rfl, rfl, rfl⟩ rfl rfl rfl rfl rfl (by kernel_rfl) Try.func7 (by kernel_rfl)
    (of_decide_eq_true (by kernel_rfl)) (by unfold Func.isWrapper; first | (rw [if_pos (by decide +kernel)]; kernel_rfl) | (rw [if_neg (by decide +kernel)]; exact ⟨rfl, rfl⟩))
    (fun os started H enc _ => hd_lifted os started H enc)
end Go.Proofs.Ytgidaaogknikoaa
