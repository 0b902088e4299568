import Derived.ProofKit
import Derived.Carry
import Derived.Test.YtgidaaogknikoaaGjGkGl1
import Derived.Test.YtgidaaogknikoaaLwLv
set_option linter.unusedVariables false
set_option linter.unusedSimpArgs false
set_option maxRecDepth 100000
namespace Go.Proofs.Ytgidaaogknikoaa
open Go.Lg Go.ChangeShapes Go.WideShapes Go.ChangeAt Go.RowKit
attribute [local irreducible] bodyH funS
variable {H : Type} {enc : TypeId × Value → H} {w : World}
def i64P (z : Int) : Prop := -9223372036854775808 ≤ z ∧ z ≤ 9223372036854775807
structure C4 where
  t : Tst
  h : i64P t.h ∧ i64P t.s ∧ i64P t.lo ∧ i64P t.hi
instance : Inhabited C4 := ⟨⟨⟨0, 0, 0, 0⟩, by unfold i64P; decide⟩⟩
def C4.cs (c : C4) : List Value := [.int .i64 c.t.h, .int .i64 c.t.s, .int .i64 c.t.lo, .int .i64 c.t.hi]
def C4.av (c : C4) : AV := .agg [.sc (.int .i64 c.t.h), .sc (.int .i64 c.t.s), .sc (.int .i64 c.t.lo), .sc (.int .i64 c.t.hi)]
theorem wf_i64 {z : Int} (h : (Lit.int .i64 z).wf = true) : i64P z := by
  have h : (decide (IntKind.min .i64 ≤ z) && decide (z ≤ IntKind.max .i64)) = true := h
  simp only [Bool.and_eq_true, decide_eq_true_eq] at h
  have e1 : IntKind.min .i64 = -9223372036854775808 := by decide
  have e2 : IntKind.max .i64 = 9223372036854775807 := by decide
  rw [e1, e2] at h
  exact h
theorem cells3 : Try.prog.cellsOf 3 = 1 := by kernel_rfl
theorem cells26 : Try.prog.cellsOf 26 = 2 := by kernel_rfl
theorem int_fld {n : Nat} {c : Value} {x : DataW H × List MemPlace} (h : DataW.trod enc Try.prog w 0 (fun _ => true) true n 3 [c] = some x) : ∃ z, c = .int .i64 z ∧ i64P z := by
  obtain ⟨z, h5, _, h6⟩ := DataW.trod_int Try.underlying3 h
  exact ⟨z, by simpa using h5, wf_i64 h6⟩
theorem spn_fld {n : Nat} {c0 c1 : Value} {y : DataW H × List MemPlace} (h : DataW.trod enc Try.prog w 0 (fun _ => true) true n 26 [c0, c1] = some y) : ∃ a b, c0 = .int .i64 a ∧ c1 = .int .i64 b ∧ i64P a ∧ i64P b := by
  obtain ⟨xs, k, _, _, hlen, hxs, hel⟩ := DataW.trod_struct Try.underlying26 h
  simp at hxs
  have get : ∀ i, i < 2 → ∃ x, xs[i]? = some x := fun i hi => ⟨_, List.getElem?_eq_getElem (by omega)⟩
  have fld : ∀ (i : Nat) (hi : i < 2) (f : Field) {cs' : List Value}, xs[i]? = DataW.trod enc Try.prog w 0 (fun _ => true) true k f.type cs' → ∃ y, DataW.trod enc Try.prog w 0 (fun _ => true) true k f.type cs' = some y := fun i hi f cs' e => by
    obtain ⟨x, hx⟩ := get i hi
    exact ⟨x, by rw [← e, hx]⟩
  obtain ⟨_, h0⟩ := fld 0 (by omega) _ (hel 0 _ rfl).symm
  obtain ⟨_, h1⟩ := fld 1 (by omega) _ (hel 1 _ rfl).symm
  replace h0 : DataW.trod enc Try.prog w 0 (fun _ => true) true k 3 ([c0, c1].take (Try.prog.cellsOf 3)) = some _ := h0
  replace h1 : DataW.trod enc Try.prog w 0 (fun _ => true) true k 3 ([c1].take (Try.prog.cellsOf 3)) = some _ := h1
  rw [cells3] at h0 h1
  obtain ⟨a, rfl, g1⟩ := int_fld h0
  obtain ⟨b, rfl, g2⟩ := int_fld h1
  exact ⟨a, b, rfl, rfl, g1, g2⟩
theorem read_test (n : Nat) (cs : List Value) (y : DataW H × List MemPlace) (h : DataW.trod enc Try.prog w 0 (fun _ => true) true n 55 cs = some y) : ∃ m : C4, cs = m.cs ∧ m.cs.length = 4 := by
  obtain ⟨xs, k, _, _, hlen, hxs, hel⟩ := DataW.trod_struct Try.underlying55 h
  simp at hxs
  have hsz2 : cs.length = 4 := by rw [hlen]; kernel_rfl
  have get : ∀ i, i < 3 → ∃ x, xs[i]? = some x := fun i hi => ⟨_, List.getElem?_eq_getElem (by omega)⟩
  match cs, hsz2 with
  | [c0, c1, c2, c3], _ =>
    have fld : ∀ (i : Nat) (hi : i < 3) (f : Field) {cs' : List Value}, xs[i]? = DataW.trod enc Try.prog w 0 (fun _ => true) true k f.type cs' → ∃ y, DataW.trod enc Try.prog w 0 (fun _ => true) true k f.type cs' = some y := fun i hi f cs' e => by
      obtain ⟨x, hx⟩ := get i hi
      exact ⟨x, by rw [← e, hx]⟩
    obtain ⟨_, h0⟩ := fld 0 (by omega) _ (hel 0 _ rfl).symm
    obtain ⟨_, h1⟩ := fld 1 (by omega) _ (hel 1 _ rfl).symm
    obtain ⟨_, h2⟩ := fld 2 (by omega) _ (hel 2 _ rfl).symm
    replace h0 : DataW.trod enc Try.prog w 0 (fun _ => true) true k 3 ([c0, c1, c2, c3].take (Try.prog.cellsOf 3)) = some _ := h0
    replace h1 : DataW.trod enc Try.prog w 0 (fun _ => true) true k 3 ([c1, c2, c3].take (Try.prog.cellsOf 3)) = some _ := h1
    replace h2 : DataW.trod enc Try.prog w 0 (fun _ => true) true k 26 ([c2, c3].take (Try.prog.cellsOf 26)) = some _ := h2
    rw [cells3] at h0 h1
    rw [cells26] at h2
    obtain ⟨z0, rfl, g0⟩ := int_fld h0
    obtain ⟨z1, rfl, g1⟩ := int_fld h1
    obtain ⟨z2, z3, rfl, rfl, g2, g3⟩ := spn_fld h2
    exact ⟨⟨⟨z0, z1, z2, z3⟩, g0, g1, g2, g3⟩, rfl, rfl⟩
def tlC (ms : List C4) : Tl := ⟨ms.length, fun k => (ms.getD k default).t⟩
def okI (T : Tl) : Prop := ∀ k, i64P (T.f k).h ∧ i64P (T.f k).s ∧ i64P (T.f k).lo ∧ i64P (T.f k).hi
theorem tlC_ok (ms : List C4) : okI (tlC ms) := fun k => (ms.getD k default).h
theorem tl_den (ms : List C4) : (tlC ms).sv.den = .isl 4 (ms.map C4.av) := by
  simp only [tlC, Tl.sv, SV.den]
  congr 1
  apply List.ext_getElem
  · simp
  · intro i h1 h2
    simp at h1 h2
    simp [Tst.sv, SV.denL, SV.den, C4.av, h2]
theorem read_tests {base : Nat} {v : Value} {d : DataW H} {p : List MemPlace} (hv : Value.okWide Try.prog w .any base 37 v) (h : DataW.Trod enc Try.prog w 0 (fun _ => true) true 37 v d p) :
    ∃ T : Tl, okI T ∧ Rel (cellf w) (fun b => b < w.heap.size) 0 noβ T.sv.den v := by
  obtain ⟨fuel, h⟩ := h
  have hc : v.cells.toList = [v] := by
    unfold Value.okWide at hv
    rw [Try.underlying37] at hv
    cases v <;> first | rfl | (simp [Cell.okWide, Cell.ok, Try.underlying37] at hv)
  rw [hc] at h
  obtain ⟨v', ms, e, hr, _, _⟩ := rel_slice C4.cs C4.av (fun m => rfl) (show Try.prog.cellsOf 55 = 4 by kernel_rfl) (by omega) Try.underlying37 read_test h
  cases e
  refine ⟨tlC ms, tlC_ok ms, ?_⟩
  rw [tl_den]
  exact hr
theorem read_decree {base : Nat} {v : Value} {d : DataW H} {p : List MemPlace} (hv : Value.okWide Try.prog w .any base 36 v) (h : DataW.Trod enc Try.prog w 0 (fun _ => true) true 36 v d p) :
    ∃ x : De, i64P x.w ∧ i64P x.d ∧ i64P x.sl ∧ i64P x.pay ∧ Rel (cellf w) (fun b => b < w.heap.size) 0 noβ x.sv.den v := by
  obtain ⟨fuel, h⟩ := h
  unfold Value.okWide at hv
  rw [Try.underlying36] at hv
  obtain ⟨cs, rfl, hsz, _⟩ := hv
  obtain ⟨xs, k, _, _, hlen, hxs, hel⟩ := DataW.trod_struct Try.underlying36 h
  simp at hxs
  have hsz2 : cs.size = 4 := by rw [hsz]; kernel_rfl
  have get : ∀ i, i < 4 → ∃ x, xs[i]? = some x := fun i hi => ⟨_, List.getElem?_eq_getElem (by omega)⟩
  obtain ⟨L⟩ := cs
  match L, hsz2 with
  | [c0, c1, c2, c3], _ =>
    have fld : ∀ (i : Nat) (hi : i < 4) (f : Field) {cs' : List Value}, xs[i]? = DataW.trod enc Try.prog w 0 (fun _ => true) true k f.type cs' → ∃ y, DataW.trod enc Try.prog w 0 (fun _ => true) true k f.type cs' = some y := fun i hi f cs' e => by
      obtain ⟨x, hx⟩ := get i hi
      exact ⟨x, by rw [← e, hx]⟩
    obtain ⟨_, h0⟩ := fld 0 (by omega) _ (hel 0 _ rfl).symm
    obtain ⟨_, h1⟩ := fld 1 (by omega) _ (hel 1 _ rfl).symm
    obtain ⟨_, h2⟩ := fld 2 (by omega) _ (hel 2 _ rfl).symm
    obtain ⟨_, h3⟩ := fld 3 (by omega) _ (hel 3 _ rfl).symm
    replace h0 : DataW.trod enc Try.prog w 0 (fun _ => true) true k 3 ([c0, c1, c2, c3].take (Try.prog.cellsOf 3)) = some _ := h0
    replace h1 : DataW.trod enc Try.prog w 0 (fun _ => true) true k 3 ([c1, c2, c3].take (Try.prog.cellsOf 3)) = some _ := h1
    replace h2 : DataW.trod enc Try.prog w 0 (fun _ => true) true k 3 ([c2, c3].take (Try.prog.cellsOf 3)) = some _ := h2
    replace h3 : DataW.trod enc Try.prog w 0 (fun _ => true) true k 3 ([c3].take (Try.prog.cellsOf 3)) = some _ := h3
    rw [cells3] at h0 h1 h2 h3
    obtain ⟨z0, rfl, g0⟩ := int_fld h0
    obtain ⟨z1, rfl, g1⟩ := int_fld h1
    obtain ⟨z2, rfl, g2⟩ := int_fld h2
    obtain ⟨z3, rfl, g3⟩ := int_fld h3
    refine ⟨⟨z0, z1, z2, z3⟩, g0, g1, g2, g3, ?_⟩
    simp only [De.sv, De.cells, SV.den, SV.denL]
    exact RelL.agg (RelL.mk (.sc _) (RelL.mk (.sc _) (RelL.mk (.sc _) (RelL.mk (.sc _) RelL.mk_nil))))
theorem read_span {base : Nat} {v : Value} {d : DataW H} {p : List MemPlace} (hv : Value.okWide Try.prog w .any base 26 v) (h : DataW.Trod enc Try.prog w 0 (fun _ => true) true 26 v d p) :
    ∃ a b : Int, i64P a ∧ i64P b ∧ Rel (cellf w) (fun b => b < w.heap.size) 0 noβ (SV.agg [i6 a, i6 b]).den v := by
  obtain ⟨fuel, h⟩ := h
  unfold Value.okWide at hv
  rw [Try.underlying26] at hv
  obtain ⟨cs, rfl, hsz, _⟩ := hv
  have hsz2 : cs.size = 2 := by rw [hsz]; kernel_rfl
  obtain ⟨L⟩ := cs
  match L, hsz2 with
  | [c0, c1], _ =>
    obtain ⟨a, b, rfl, rfl, g1, g2⟩ := spn_fld h
    refine ⟨a, b, g1, g2, ?_⟩
    simp only [SV.den, SV.denL]
    exact RelL.agg (RelL.mk (.sc _) (RelL.mk (.sc _) RelL.mk_nil))
theorem own : ownKnob Try.prog.godebug = none := by kernel_rfl
theorem laid : laidOutB Try.prog = true := by kernel_rfl
theorem read36 : Try.prog.readableRec 36 = true ∧ 36 < Try.prog.types.size := ⟨by kernel_rfl, of_decide_eq_true (by kernel_rfl)⟩
theorem read37 : Try.prog.readableRec 37 = true ∧ 37 < Try.prog.types.size := ⟨by kernel_rfl, of_decide_eq_true (by kernel_rfl)⟩
theorem read3 : Try.prog.readableRec 3 = true ∧ 3 < Try.prog.types.size := ⟨by kernel_rfl, of_decide_eq_true (by kernel_rfl)⟩
theorem read26 : Try.prog.readableRec 26 = true ∧ 26 < Try.prog.types.size := ⟨by kernel_rfl, of_decide_eq_true (by kernel_rfl)⟩
section
variable {P : Program} {base : Nat} {spare : Nat → Bool} {held : Bool}
end
end Go.Proofs.Ytgidaaogknikoaa
