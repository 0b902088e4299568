/- The statement HolderHolds of layer 5 (holder) holds of the code at its commit: for all watches and plans that there are, the law returns true. There are no conditions but the ones that the statement has. -/
import Derived.Test.YtoeolgeidpjgbaaXkXlXmXnXo
import Derived.Test.YtoeolgeidpjgbaaVl
set_option linter.unusedVariables false
set_option maxRecDepth 100000
namespace Go.Proofs.Ytoeolgeidpjgbaa
open Go.Lg Go.ChangeShapes Go.WideShapes Go.ChangeAt Go.RowKit
attribute [local irreducible] funS
variable {H : Type} {enc : TypeId × Value → H} {w : World}
theorem int_fld {n : Nat} {c : Value} {x : DataW H × List MemPlace} (h : DataW.trod enc Try.prog w 0 (fun _ => true) true n 3 [c] = some x) : ∃ z, c = .int .i64 z := by
  obtain ⟨z, h5, _, _⟩ := DataW.trod_int Try.underlying3 h
  exact ⟨z, by simpa using h5⟩
theorem read_plan {base : Nat} {v : Value} {d : DataW H} {p : List MemPlace} (hv : Value.okWide Try.prog w .any base 35 v) (h : DataW.Trod enc Try.prog w 0 (fun _ => true) true 35 v d p) :
    ∃ ms : List Int, Rel (cellf w) (fun b => b < w.heap.size) 0 noβ (.isl 1 (ms.map fun z => .sc (.int .i64 z))) v := by
  obtain ⟨fuel, h⟩ := h
  have hc : v.cells.toList = [v] := by
    unfold Value.okWide at hv
    rw [Try.underlying35] at hv
    cases v <;> first | rfl | (simp [Cell.okWide, Cell.ok, Try.underlying35] at hv)
  rw [hc] at h
  obtain ⟨v', ms, e, hr, _, _⟩ := rel_slice (fun z : Int => [Value.int .i64 z]) (fun z => .sc (.int .i64 z)) (fun m => rfl) (show Try.prog.cellsOf 3 = 1 by kernel_rfl) (by omega) Try.underlying35
    (fun n cs y h => by
      obtain ⟨z, h5, _, _⟩ := DataW.trod_int Try.underlying3 h
      exact ⟨z, h5, rfl⟩) h
  cases e
  exact ⟨ms, hr⟩
theorem plan_den (ms : List Int) : (planV ms.length fun i => ms.getD i 0).den = .isl 1 (ms.map fun z => .sc (.int .i64 z)) := by
  simp only [planV, SV.den]
  congr 1
  apply List.ext_getElem
  · simp
  · intro i h1 h2
    simp at h1 h2
    simp [h2]
theorem read_watch {base : Nat} {v : Value} {d : DataW H} {p : List MemPlace} (hv : Value.okWide Try.prog w .any base 34 v) (h : DataW.Trod enc Try.prog w 0 (fun _ => true) true 34 v d p) :
    ∃ x : Wt, Rel (cellf w) (fun b => b < w.heap.size) 0 noβ x.sv.den v := by
  obtain ⟨fuel, h⟩ := h
  unfold Value.okWide at hv
  rw [Try.underlying34] at hv
  obtain ⟨cs, rfl, hsz, _⟩ := hv
  obtain ⟨xs, k, _, _, hlen, hxs, hel⟩ := DataW.trod_struct Try.underlying34 h
  simp at hxs
  have hsz2 : cs.size = 10 := by rw [hsz]; kernel_rfl
  have c3 : Try.prog.cellsOf 3 = 1 := by kernel_rfl
  have c24 : Try.prog.cellsOf 24 = 2 := by kernel_rfl
  have c32 : Try.prog.cellsOf 32 = 1 := by kernel_rfl
  have get : ∀ i, i < 9 → ∃ x, xs[i]? = some x := fun i hi => ⟨_, List.getElem?_eq_getElem (by omega)⟩
  obtain ⟨L⟩ := cs
  match L, hsz2 with
  | [c0, c1, c2, c3', c4, c5, c6, c7, c8, c9], _ =>
    have fld : ∀ (i : Nat) (hi : i < 9) (f : Field) {cs' : List Value}, xs[i]? = DataW.trod enc Try.prog w 0 (fun _ => true) true k f.type cs' → ∃ y, DataW.trod enc Try.prog w 0 (fun _ => true) true k f.type cs' = some y := fun i hi f cs' e => by
      obtain ⟨x, hx⟩ := get i hi
      exact ⟨x, by rw [← e, hx]⟩
    obtain ⟨_, h0⟩ := fld 0 (by omega) _ (hel 0 _ rfl).symm
    obtain ⟨_, h1⟩ := fld 1 (by omega) _ (hel 1 _ rfl).symm
    obtain ⟨_, h2⟩ := fld 2 (by omega) _ (hel 2 _ rfl).symm
    obtain ⟨_, h3⟩ := fld 3 (by omega) _ (hel 3 _ rfl).symm
    obtain ⟨_, h4⟩ := fld 4 (by omega) _ (hel 4 _ rfl).symm
    obtain ⟨_, h5⟩ := fld 5 (by omega) _ (hel 5 _ rfl).symm
    obtain ⟨_, h6⟩ := fld 6 (by omega) _ (hel 6 _ rfl).symm
    obtain ⟨_, h7⟩ := fld 7 (by omega) _ (hel 7 _ rfl).symm
    obtain ⟨_, h8⟩ := fld 8 (by omega) _ (hel 8 _ rfl).symm
    simp only [Value.cells] at h0 h1 h2 h3 h4 h5 h6 h7 h8
    obtain ⟨z0, rfl⟩ := int_fld h0
    obtain ⟨z1, rfl⟩ := int_fld h1
    obtain ⟨m2, e2, _⟩ := read_two Try.underlying24 ⟨rfl, rfl⟩ ⟨rfl, rfl⟩ (by kernel_rfl) h2
    obtain ⟨v3, ds, e3, r3, _, _⟩ := rel_slice (fun m : Int × Int => [Value.int .i64 m.1, Value.int .i64 m.2]) pairA (fun m => rfl) (show Try.prog.cellsOf 24 = 2 by kernel_rfl) (by omega) Try.underlying32
      (fun n cs y h => read_two Try.underlying24 ⟨rfl, rfl⟩ ⟨rfl, rfl⟩ (by kernel_rfl) h) h3
    obtain ⟨z4, rfl⟩ := int_fld h4
    obtain ⟨z5, rfl⟩ := int_fld h5
    obtain ⟨z6, rfl⟩ := int_fld h6
    obtain ⟨z7, rfl⟩ := int_fld h7
    obtain ⟨z8, rfl⟩ := int_fld h8
    simp at e2
    simp [c32] at e3
    obtain ⟨rfl, rfl⟩ := e2
    subst e3
    refine ⟨⟨z0, z1, m2.1, m2.2, ds.length, fun i => (ds.getD i (0, 0)).1, fun i => (ds.getD i (0, 0)).2, z4, z5, z6, z7, z8⟩, ?_⟩
    have e := lifts_den ds
    simp only [lifts, SV.den] at e
    simp only [Wt.sv, SV.den, SV.denL]
    refine RelL.agg (RelL.mk (.sc _) (RelL.mk (.sc _) (RelL.mk (.sc _) (RelL.mk (.sc _) (RelL.mk ?_ (RelL.mk (.sc _) (RelL.mk (.sc _) (RelL.mk (.sc _) (RelL.mk (.sc _) (RelL.mk (.sc _) RelL.mk_nil))))))))))
    rw [← e] at r3
    exact r3
theorem read34 : Try.prog.readableRec 34 = true ∧ 34 < Try.prog.types.size := ⟨by kernel_rfl, of_decide_eq_true (by kernel_rfl)⟩
theorem read35 : Try.prog.readableRec 35 = true ∧ 35 < Try.prog.types.size := ⟨by kernel_rfl, of_decide_eq_true (by kernel_rfl)⟩
theorem holds_lifted (os : Os) (started : os.Started) (H : Type) (enc : TypeId × Value → H) :
    ReturnsInHanded {} Try.checked os 4 .any (Rows.holderHoldsSpec.pre6 enc Try.prog Try.f4 Rows.holderHoldsRow.domain false) (Rows.holderHoldsSpec.post enc Try.prog Try.f4 false true false false) := by
  refine returnsInHanded_of_change (C := Try.checked) own started (by kernel_rfl) Try.func4
    (ChangeSpec.witness6 (enc := enc) (C := Try.checked) false ⟨#[], #[.agg #[.int .i64 0, .int .i64 0, .int .i64 0, .int .i64 0, .slice none 0 0, .int .i64 0, .int .i64 0, .int .i64 0, .int .i64 0, .int .i64 0], .slice none 0 0], []⟩ 8 (by kernel_rfl) (by kernel_rfl) (by kernel_rfl) (by kernel_rfl)) ?_
  intro W base args ds gs before hval0 hW hcnd _
  have hval : ∀ (j : Nat) t v, Try.f4.params[j]? = some t → args[j]? = some v → Value.okWide Try.prog W .any base t v := hval0
  have hW0 : DataW.Whole enc Try.prog Try.f4.params.toList Rows.holderHoldsSpec.vars false W args.toList ds gs before := hW
  obtain ⟨p, q, hA0, hV, rfl, hfz, hnd⟩ := hW
  have hA : DataW.TrodAll enc Try.prog W 0 (fun _ => true) true Try.f4.params.toList args.toList ds p := hA0
  rw [Try.params4] at hA hval
  obtain ⟨v0, v1, d0, d1, p0, p1, rfl, rfl, rfl, h0, h1⟩ := trodAll_two hA
  obtain ⟨rfl, rfl⟩ := trodVars_none hV
  obtain ⟨x, hr0⟩ := read_watch (hval 0 34 v0 rfl rfl) h0
  obtain ⟨ms, hr1⟩ := read_plan (hval 1 35 v1 rfl rfl) h1
  have hd := holdsLaw_does x ms.length (fun i => ms.getD i 0)
  refine law_calls laid (f := 4) (fn := Try.f4) (tb := 4) (by
    rw [Try.params4]
    intro t ht
    simp at ht
    rcases ht with rfl | rfl
    · exact read34
    · exact read35) rfl (by kernel_rfl) Try.underlying4 rfl hW0 ?_ hd
  refine RelL.mk hr0 (RelL.mk ?_ RelL.mk_nil)
  rw [plan_den]
  exact hr1

theorem holder_holds_holds : Rows.HolderHoldsSaid :=
  OpenClaim.holds_of_wide 4 Try.f4 rfl rfl rfl rfl rfl rfl rfl ⟨rfl, rfl, rfl, rfl, rfl⟩ rfl rfl rfl rfl rfl (by kernel_rfl) Try.func4 (by kernel_rfl)
    (of_decide_eq_true (by kernel_rfl)) (by unfold Func.isWrapper; first | (rw [if_pos (by decide +kernel)]; kernel_rfl) | (rw [if_neg (by decide +kernel)]; exact ⟨rfl, rfl⟩))
    (fun os started H enc _ => holds_lifted os started H enc)
end Go.Proofs.Ytoeolgeidpjgbaa
