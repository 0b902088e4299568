import Derived.ProofKit
import Derived.Carry
import Derived.Test.YtfjfnpknlkonnaaLzkLzkVLzl
import Derived.Test.YtfjfnpknlkonnaaLwLv
set_option linter.unusedVariables false
set_option linter.unusedSimpArgs false
set_option maxRecDepth 100000
namespace Go.Proofs.Ytfjfnpknlkonnaa
open Go.Lg Go.ChangeShapes Go.WideShapes Go.ChangeAt Go.RowKit
attribute [local irreducible] bodyH
variable {H : Type} {enc : TypeId × Value → H} {w : World}
structure C3 where
  g : Bool
  s : Int
  a : Int
  hs : i64P s
  ha : i64P a
instance : Inhabited C3 := ⟨⟨false, 0, 0, by unfold i64P; decide, by unfold i64P; decide⟩⟩
def C3.cs (c : C3) : List Value := [.bool c.g, .int .i64 c.s, .int .i64 c.a]
def C3.av (c : C3) : AV := .agg [.sc (.bool c.g), .sc (.int .i64 c.s), .sc (.int .i64 c.a)]
theorem wf_i64 {z : Int} (h : (Lit.int .i64 z).wf = true) : i64P z := by
  have h : (decide (IntKind.min .i64 ≤ z) && decide (z ≤ IntKind.max .i64)) = true := h
  simp only [Bool.and_eq_true, decide_eq_true_eq] at h
  have e1 : IntKind.min .i64 = -9223372036854775808 := by decide
  have e2 : IntKind.max .i64 = 9223372036854775807 := by decide
  rw [e1, e2] at h
  exact h
theorem cells3 : Try.prog.cellsOf 3 = 1 := by kernel_rfl
theorem cells4 : Try.prog.cellsOf 4 = 1 := by kernel_rfl
theorem int_fld {n : Nat} {c : Value} {x : DataW H × List MemPlace} (h : DataW.trod enc Try.prog w 0 (fun _ => true) true n 3 [c] = some x) : ∃ z, c = .int .i64 z ∧ i64P z := by
  obtain ⟨z, h5, _, h6⟩ := DataW.trod_int Try.underlying3 h
  exact ⟨z, by simpa using h5, wf_i64 h6⟩
theorem bool_fld {n : Nat} {c : Value} {x : DataW H × List MemPlace} (h : DataW.trod enc Try.prog w 0 (fun _ => true) true n 4 [c] = some x) : ∃ b, c = .bool b := by
  obtain ⟨z, h5, _⟩ := DataW.trod_bool Try.underlying4 h
  exact ⟨z, by simpa using h5⟩
theorem read_clue (n : Nat) (cs : List Value) (y : DataW H × List MemPlace) (h : DataW.trod enc Try.prog w 0 (fun _ => true) true n 39 cs = some y) : ∃ m : C3, cs = m.cs ∧ m.cs.length = 3 := by
  obtain ⟨xs, k, _, _, hlen, hxs, hel⟩ := DataW.trod_struct Try.underlying39 h
  simp at hxs
  have hsz2 : cs.length = 3 := by rw [hlen]; kernel_rfl
  have get : ∀ i, i < 3 → ∃ x, xs[i]? = some x := fun i hi => ⟨_, List.getElem?_eq_getElem (by omega)⟩
  match cs, hsz2 with
  | [c0, c1, c2], _ =>
    have fld : ∀ (i : Nat) (hi : i < 3) (f : Field) {cs' : List Value}, xs[i]? = DataW.trod enc Try.prog w 0 (fun _ => true) true k f.type cs' → ∃ y, DataW.trod enc Try.prog w 0 (fun _ => true) true k f.type cs' = some y := fun i hi f cs' e => by
      obtain ⟨x, hx⟩ := get i hi
      exact ⟨x, by rw [← e, hx]⟩
    obtain ⟨_, h0⟩ := fld 0 (by omega) _ (hel 0 _ rfl).symm
    obtain ⟨_, h1⟩ := fld 1 (by omega) _ (hel 1 _ rfl).symm
    obtain ⟨_, h2⟩ := fld 2 (by omega) _ (hel 2 _ rfl).symm
    replace h0 : DataW.trod enc Try.prog w 0 (fun _ => true) true k 4 ([c0, c1, c2].take (Try.prog.cellsOf 4)) = some _ := h0
    replace h1 : DataW.trod enc Try.prog w 0 (fun _ => true) true k 3 ([c1, c2].take (Try.prog.cellsOf 3)) = some _ := h1
    replace h2 : DataW.trod enc Try.prog w 0 (fun _ => true) true k 3 ([c2].take (Try.prog.cellsOf 3)) = some _ := h2
    rw [cells4] at h0
    rw [cells3] at h1 h2
    obtain ⟨b, rfl⟩ := bool_fld h0
    obtain ⟨z1, rfl, g1⟩ := int_fld h1
    obtain ⟨z2, rfl, g2⟩ := int_fld h2
    exact ⟨⟨b, z1, z2, g1, g2⟩, rfl, rfl⟩
def dlC (ms : List C3) : Dl := ⟨ms.length, fun k => ⟨(ms.getD k default).g = true, inferInstance⟩, fun k => (ms.getD k default).s, fun k => (ms.getD k default).a⟩
theorem dlC_ok (ms : List C3) : okD (dlC ms) := ⟨fun k => (ms.getD k default).hs, fun k => (ms.getD k default).ha⟩
theorem dl_den (ms : List C3) : (dlC ms).sv.den = .isl 3 (ms.map C3.av) := by
  simp only [dlC, Dl.sv, SV.den]
  congr 1
  apply List.ext_getElem
  · simp
  · intro i h1 h2
    simp at h1 h2
    simp [SV.denL, SV.den, C3.av, h2]
theorem read_search {base : Nat} {v : Value} {d : DataW H} {p : List MemPlace} (hv : Value.okWide Try.prog w .any base 24 v) (h : DataW.Trod enc Try.prog w 0 (fun _ => true) true 24 v d p) :
    ∃ (ma wr : Int) (cl ho : Dl), okD cl ∧ okD ho ∧ Rel (cellf w) (fun b => b < w.heap.size) 0 noβ (sqV ma wr cl ho).den v := by
  obtain ⟨fuel, h⟩ := h
  unfold Value.okWide at hv
  rw [Try.underlying24] at hv
  obtain ⟨cs, rfl, hsz, _⟩ := hv
  obtain ⟨xs, k, _, _, hlen, hxs, hel⟩ := DataW.trod_struct Try.underlying24 h
  simp at hxs
  have hsz2 : cs.size = 4 := by rw [hsz]; kernel_rfl
  have c22 : Try.prog.cellsOf 22 = 1 := by kernel_rfl
  have get : ∀ i, i < 4 → ∃ x, xs[i]? = some x := fun i hi => ⟨_, List.getElem?_eq_getElem (by omega)⟩
  obtain ⟨L⟩ := cs
  match L, hsz2 with
  | [c0, c1, c2, c3], _ =>
    have fld : ∀ (i : Nat) (hi : i < 4) (f : Field) {cs' : List Value}, xs[i]? = DataW.trod enc Try.prog w 0 (fun _ => true) true k f.type cs' → ∃ y, DataW.trod enc Try.prog w 0 (fun _ => true) true k f.type cs' = some y := fun i hi f cs' e => by
      obtain ⟨x, hx⟩ := get i hi
      exact ⟨x, by rw [← e, hx]⟩
    obtain ⟨_, h0⟩ := fld 0 (by omega) _ (hel 0 _ rfl).symm
    obtain ⟨_, h1⟩ := fld 1 (by omega) _ (hel 1 _ rfl).symm
    obtain ⟨_, h2⟩ := fld 2 (by omega) _ (hel 2 _ rfl).symm
    obtain ⟨_, h3⟩ := fld 3 (by omega) _ (hel 3 _ rfl).symm
    replace h0 : DataW.trod enc Try.prog w 0 (fun _ => true) true k 3 ([c0, c1, c2, c3].take (Try.prog.cellsOf 3)) = some _ := h0
    replace h1 : DataW.trod enc Try.prog w 0 (fun _ => true) true k 3 ([c1, c2, c3].take (Try.prog.cellsOf 3)) = some _ := h1
    replace h2 : DataW.trod enc Try.prog w 0 (fun _ => true) true k 22 ([c2, c3].take (Try.prog.cellsOf 22)) = some _ := h2
    replace h3 : DataW.trod enc Try.prog w 0 (fun _ => true) true k 22 ([c3].take (Try.prog.cellsOf 22)) = some _ := h3
    rw [cells3] at h0 h1
    rw [c22] at h2 h3
    obtain ⟨ma, rfl, g1⟩ := int_fld h0
    obtain ⟨wr, rfl, g2⟩ := int_fld h1
    obtain ⟨v1, js, e1, r1, _, _⟩ := rel_slice C3.cs C3.av (fun m => rfl) (show Try.prog.cellsOf 39 = 3 by kernel_rfl) (by omega) Try.underlying22 read_clue h2
    obtain ⟨v2, ms, e2, r2, _, _⟩ := rel_slice C3.cs C3.av (fun m => rfl) (show Try.prog.cellsOf 39 = 3 by kernel_rfl) (by omega) Try.underlying22 read_clue h3
    simp at e1 e2
    subst e1 e2
    refine ⟨ma, wr, dlC js, dlC ms, dlC_ok js, dlC_ok ms, ?_⟩
    rw [← dl_den] at r1 r2
    simp only [sqV, SV.den, SV.denL]
    exact RelL.agg (RelL.mk (.sc _) (RelL.mk (.sc _) (RelL.mk r1 (RelL.mk r2 RelL.mk_nil))))
theorem own : ownKnob Try.prog.godebug = none := by kernel_rfl
theorem laid : laidOutB Try.prog = true := by kernel_rfl
theorem read24 : Try.prog.readableRec 24 = true ∧ 24 < Try.prog.types.size := ⟨by kernel_rfl, of_decide_eq_true (by kernel_rfl)⟩
end Go.Proofs.Ytfjfnpknlkonnaa
