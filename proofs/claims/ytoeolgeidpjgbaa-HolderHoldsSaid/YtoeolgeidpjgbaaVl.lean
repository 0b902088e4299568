import Derived.ProofKit
import Derived.Carry
import Derived.Test.YtoeolgeidpjgbaaVeVfVi
import Derived.Test.YtoeolgeidpjgbaaLv
import Derived.Test.YtoeolgeidpjgbaaLw
set_option linter.unusedVariables false
set_option maxRecDepth 100000
namespace Go.Proofs.Ytoeolgeidpjgbaa
open Go.Lg Go.ChangeShapes Go.WideShapes Go.ChangeAt Go.RowKit
attribute [local irreducible] funS
variable {H : Type} {enc : TypeId × Value → H} {w : World}

/-- a row of int fields, one cell each -/
theorem read_ints {P : Program} {t : TypeId} {fs : Array Field} {n : Nat} {cs : List Value} {y : DataW H × List MemPlace} (hu : P.underlying t = some (.struct fs))
    (hf : ∀ (i : Nat) (f : Field), fs[i]? = some f → P.underlying f.type = some (.int .i64) ∧ f.offset = i ∧ P.cellsOf f.type = 1) (hc : P.cellsOf t = fs.size)
    (h : DataW.trod enc P w 0 (fun _ => true) true n t cs = some y) :
    cs.length = fs.size ∧ ∀ i, i < fs.size → ∃ z, cs[i]? = some (.int .i64 z) := by
  obtain ⟨xs, k, _, _, hlen, hxs, hel⟩ := DataW.trod_struct hu h
  rw [hc] at hlen
  refine ⟨hlen, fun i hi => ?_⟩
  have hfi : fs[i]? = some fs[i] := Array.getElem?_eq_getElem hi
  obtain ⟨h1, h2, h3⟩ := hf i _ hfi
  have h4 := hel i _ hfi
  rw [h2, h3] at h4
  have hx : xs[i]? = some (xs[i]'(by omega)) := List.getElem?_eq_getElem (by omega)
  rw [hx] at h4
  obtain ⟨z, h5, _, h6⟩ := DataW.trod_int h1 h4
  refine ⟨z, ?_⟩
  have := congrArg (fun l => l[0]?) h5
  simpa [List.getElem?_take, List.getElem?_drop] using this
theorem read_two {t : TypeId} {f g : Field} {n : Nat} {cs : List Value} {y : DataW H × List MemPlace} (hu : Try.prog.underlying t = some (.struct #[f, g]))
    (hf : f.type = 3 ∧ f.offset = 0) (hg : g.type = 3 ∧ g.offset = 1) (hc : Try.prog.cellsOf t = 2) (h : DataW.trod enc Try.prog w 0 (fun _ => true) true n t cs = some y) :
    ∃ m : Int × Int, cs = [.int .i64 m.1, .int .i64 m.2] ∧ [Value.int .i64 m.1, Value.int .i64 m.2].length = 2 := by
  obtain ⟨hl, hi⟩ := read_ints hu (by
    intro i e he
    match i, he with
    | 0, he => simp at he; subst he; rw [hf.1]; exact ⟨Try.underlying3, hf.2, by kernel_rfl⟩
    | 1, he => simp at he; subst he; rw [hg.1]; exact ⟨Try.underlying3, hg.2, by kernel_rfl⟩
    | i + 2, he => simp at he) (by rw [hc]; rfl) h
  obtain ⟨a, ha⟩ := hi 0 (by simp)
  obtain ⟨b, hb⟩ := hi 1 (by simp)
  refine ⟨(a, b), ?_, rfl⟩
  match cs, hl, ha, hb with
  | [x, y], _, ha, hb => simp at ha hb; subst ha hb; rfl
def pairA (m : Int × Int) : AV := .agg [.sc (.int .i64 m.1), .sc (.int .i64 m.2)]
theorem read_span {base : Nat} {v : Value} {d : DataW H} {p : List MemPlace} (hv : Value.okWide Try.prog w .any base 24 v) (h : DataW.Trod enc Try.prog w 0 (fun _ => true) true 24 v d p) :
    ∃ m : Int × Int, Rel (cellf w) (fun b => b < w.heap.size) 0 noβ (pairA m) v := by
  obtain ⟨fuel, h⟩ := h
  unfold Value.okWide at hv
  rw [Try.underlying24] at hv
  obtain ⟨cs, rfl, hsz, _⟩ := hv
  obtain ⟨m, e, _⟩ := read_two Try.underlying24 ⟨rfl, rfl⟩ ⟨rfl, rfl⟩ (by kernel_rfl) h
  refine ⟨m, ?_⟩
  obtain ⟨L⟩ := cs
  have e : L = [.int .i64 m.1, .int .i64 m.2] := by simpa [Value.cells] using e
  subst e
  exact RelL.agg (RelL.mk (.sc _) (RelL.mk (.sc _) RelL.mk_nil))
theorem read_lifts {base : Nat} {v : Value} {d : DataW H} {p : List MemPlace} (hv : Value.okWide Try.prog w .any base 22 v) (h : DataW.Trod enc Try.prog w 0 (fun _ => true) true 22 v d p) :
    ∃ ms : List (Int × Int), Rel (cellf w) (fun b => b < w.heap.size) 0 noβ (.isl 2 (ms.map pairA)) v := by
  obtain ⟨fuel, h⟩ := h
  have hc : v.cells.toList = [v] := by
    unfold Value.okWide at hv
    rw [Try.underlying22] at hv
    cases v <;> first | rfl | (simp [Cell.okWide, Cell.ok, Try.underlying22] at hv)
  rw [hc] at h
  obtain ⟨v', ms, e, hr, _, _⟩ := rel_slice (fun m : Int × Int => [Value.int .i64 m.1, Value.int .i64 m.2]) pairA (fun m => rfl) (by kernel_rfl) (by omega) Try.underlying22
    (fun n cs y h => read_two Try.underlying75 ⟨rfl, rfl⟩ ⟨rfl, rfl⟩ (by kernel_rfl) h) h
  cases e
  exact ⟨ms, hr⟩
theorem lifts_den (ms : List (Int × Int)) : (lifts ms.length (fun i => (ms.getD i (0, 0)).1) (fun i => (ms.getD i (0, 0)).2)).den = .isl 2 (ms.map pairA) := by
  simp only [lifts, SV.den]
  congr 1
  apply List.ext_getElem
  · simp
  · intro i h1 h2
    simp at h1 h2
    simp [SV.denL, SV.den, pairA, h2]

theorem own : ownKnob Try.prog.godebug = none := by kernel_rfl
theorem laid : laidOutB Try.prog = true := by kernel_rfl
theorem read22 : Try.prog.readableRec 22 = true ∧ 22 < Try.prog.types.size := ⟨by kernel_rfl, of_decide_eq_true (by kernel_rfl)⟩
theorem read3 : Try.prog.readableRec 3 = true ∧ 3 < Try.prog.types.size := ⟨by kernel_rfl, of_decide_eq_true (by kernel_rfl)⟩
theorem read24 : Try.prog.readableRec 24 = true ∧ 24 < Try.prog.types.size := ⟨by kernel_rfl, of_decide_eq_true (by kernel_rfl)⟩
end Go.Proofs.Ytoeolgeidpjgbaa
