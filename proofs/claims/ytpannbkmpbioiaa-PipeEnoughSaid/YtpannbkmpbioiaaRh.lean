import Derived.ProofKit
import Derived.Carry
import Derived.Test.YtpannbkmpbioiaaPyeRfRg
import Derived.Test.YtpannbkmpbioiaaLwLv
set_option linter.unusedVariables false
set_option linter.unusedSimpArgs false
set_option maxRecDepth 100000
namespace Go.Proofs.Ytpannbkmpbioiaa
open Go.Lg Go.ChangeShapes Go.WideShapes Go.ChangeAt Go.RowKit
attribute [local irreducible] bodyH
variable {H : Type} {enc : TypeId × Value → H} {w : World}
theorem read_ints {P : Program} {t : TypeId} {fs : Array Field} {n : Nat} {cs : List Value} {y : DataW H × List MemPlace} (hu : P.underlying t = some (.struct fs))
    (hf : ∀ (i : Nat) (f : Field), fs[i]? = some f → P.underlying f.type = some (.int .i64) ∧ f.offset = i ∧ P.cellsOf f.type = 1) (hc : P.cellsOf t = fs.size)
    (h : DataW.trod enc P w 0 (fun _ => true) true n t cs = some y) :
    cs.length = fs.size ∧ ∀ i, i < fs.size → ∃ z, cs[i]? = some (.int .i64 z) := by
  obtain ⟨xs, k, _, _, hlen, hxs, hel⟩ := DataW.trod_struct hu h
  rw [hc] at hlen
  refine ⟨hlen, fun i hi => ?_⟩
  have hfi : fs[i]? = some fs[i] := Array.getElem?_eq_getElem hi
  obtain ⟨h1, h2, h3⟩ := hf i _ hfi
  have h4 := hel i _ hfi
  rw [h2, h3] at h4
  have hx : xs[i]? = some (xs[i]'(by omega)) := List.getElem?_eq_getElem (by omega)
  rw [hx] at h4
  obtain ⟨z, h5, _, h6⟩ := DataW.trod_int h1 h4
  refine ⟨z, ?_⟩
  have := congrArg (fun l => l[0]?) h5
  simpa [List.getElem?_take, List.getElem?_drop] using this
theorem read_two {n : Nat} {cs : List Value} {y : DataW H × List MemPlace} (h : DataW.trod enc Try.prog w 0 (fun _ => true) true n 23 cs = some y) :
    ∃ a b : Int, cs = [.int .i64 a, .int .i64 b] := by
  obtain ⟨hl, hi⟩ := read_ints Try.underlying23 (by
    intro i e he
    match i, he with
    | 0, he => simp at he; subst he; exact ⟨Try.underlying3, rfl, by kernel_rfl⟩
    | 1, he => simp at he; subst he; exact ⟨Try.underlying3, rfl, by kernel_rfl⟩
    | i + 2, he => simp at he) (by kernel_rfl) h
  obtain ⟨a, ha⟩ := hi 0 (by simp)
  obtain ⟨b, hb⟩ := hi 1 (by simp)
  refine ⟨a, b, ?_⟩
  match cs, hl, ha, hb with
  | [x, y], _, ha, hb => simp at ha hb; subst ha hb; rfl
structure M4 where
  a : Int
  b : Int
  c : Int
  d : Int
def M4.cs (m : M4) : List Value := [.int .i64 m.a, .int .i64 m.b, .int .i64 m.c, .int .i64 m.d]
def M4.av (m : M4) : AV := .agg [.sc (.int .i64 m.a), .sc (.int .i64 m.b), .sc (.int .i64 m.c), .sc (.int .i64 m.d)]
theorem read_main (n : Nat) (cs : List Value) (y : DataW H × List MemPlace) (h : DataW.trod enc Try.prog w 0 (fun _ => true) true n 54 cs = some y) : ∃ m : M4, cs = m.cs ∧ m.cs.length = 4 := by
  obtain ⟨hl, hi⟩ := read_ints Try.underlying54 (by
    intro i e he
    match i, he with
    | 0, he => simp at he; subst he; exact ⟨Try.underlying3, rfl, by kernel_rfl⟩
    | 1, he => simp at he; subst he; exact ⟨Try.underlying3, rfl, by kernel_rfl⟩
    | 2, he => simp at he; subst he; exact ⟨Try.underlying3, rfl, by kernel_rfl⟩
    | 3, he => simp at he; subst he; exact ⟨Try.underlying3, rfl, by kernel_rfl⟩
    | i + 4, he => simp at he) (by kernel_rfl) h
  obtain ⟨a, ha⟩ := hi 0 (by simp)
  obtain ⟨b, hb⟩ := hi 1 (by simp)
  obtain ⟨c, hc⟩ := hi 2 (by simp)
  obtain ⟨d, hd⟩ := hi 3 (by simp)
  refine ⟨⟨a, b, c, d⟩, ?_, rfl⟩
  match cs, hl, ha, hb, hc, hd with
  | [x, y, z, u], _, ha, hb, hc, hd => simp at ha hb hc hd; subst ha hb hc hd; rfl
structure J5 where
  a : Int
  b : Int
  c : Int
  d : Int
  e : Int
def J5.cs (m : J5) : List Value := [.int .i64 m.a, .int .i64 m.b, .int .i64 m.c, .int .i64 m.d, .int .i64 m.e]
def J5.av (m : J5) : AV := .agg [.sc (.int .i64 m.a), .sc (.int .i64 m.b), .sc (.int .i64 m.c), .sc (.int .i64 m.d), .sc (.int .i64 m.e)]
theorem int_fld {n : Nat} {c : Value} {x : DataW H × List MemPlace} (h : DataW.trod enc Try.prog w 0 (fun _ => true) true n 3 [c] = some x) : ∃ z, c = .int .i64 z := by
  obtain ⟨z, h5, _, _⟩ := DataW.trod_int Try.underlying3 h
  exact ⟨z, by simpa using h5⟩
theorem cells3 : Try.prog.cellsOf 3 = 1 := by kernel_rfl
theorem cells23 : Try.prog.cellsOf 23 = 2 := by kernel_rfl
theorem read_jn (n : Nat) (cs : List Value) (y : DataW H × List MemPlace) (h : DataW.trod enc Try.prog w 0 (fun _ => true) true n 50 cs = some y) : ∃ m : J5, cs = m.cs ∧ m.cs.length = 5 := by
  obtain ⟨xs, k, _, _, hlen, hxs, hel⟩ := DataW.trod_struct Try.underlying50 h
  simp at hxs
  have hsz2 : cs.length = 5 := by rw [hlen]; kernel_rfl
  have get : ∀ i, i < 4 → ∃ x, xs[i]? = some x := fun i hi => ⟨_, List.getElem?_eq_getElem (by omega)⟩
  match cs, hsz2 with
  | [c0, c1, c2, c3, c4], _ =>
    have fld : ∀ (i : Nat) (hi : i < 4) (f : Field) {cs' : List Value}, xs[i]? = DataW.trod enc Try.prog w 0 (fun _ => true) true k f.type cs' → ∃ y, DataW.trod enc Try.prog w 0 (fun _ => true) true k f.type cs' = some y := fun i hi f cs' e => by
      obtain ⟨x, hx⟩ := get i hi
      exact ⟨x, by rw [← e, hx]⟩
    obtain ⟨_, h0⟩ := fld 0 (by omega) _ (hel 0 _ rfl).symm
    obtain ⟨_, h1⟩ := fld 1 (by omega) _ (hel 1 _ rfl).symm
    obtain ⟨_, h2⟩ := fld 2 (by omega) _ (hel 2 _ rfl).symm
    obtain ⟨_, h3⟩ := fld 3 (by omega) _ (hel 3 _ rfl).symm
    replace h0 : DataW.trod enc Try.prog w 0 (fun _ => true) true k 23 ([c0, c1, c2, c3, c4].take (Try.prog.cellsOf 23)) = some _ := h0
    replace h1 : DataW.trod enc Try.prog w 0 (fun _ => true) true k 3 ([c2, c3, c4].take (Try.prog.cellsOf 3)) = some _ := h1
    replace h2 : DataW.trod enc Try.prog w 0 (fun _ => true) true k 3 ([c3, c4].take (Try.prog.cellsOf 3)) = some _ := h2
    replace h3 : DataW.trod enc Try.prog w 0 (fun _ => true) true k 3 ([c4].take (Try.prog.cellsOf 3)) = some _ := h3
    rw [cells23] at h0
    rw [cells3] at h1 h2 h3
    obtain ⟨a, b, e0⟩ := read_two h0
    obtain ⟨z1, rfl⟩ := int_fld h1
    obtain ⟨z2, rfl⟩ := int_fld h2
    obtain ⟨z3, rfl⟩ := int_fld h3
    simp at e0
    obtain ⟨rfl, rfl⟩ := e0
    exact ⟨⟨a, b, z1, z2, z3⟩, rfl, rfl⟩
def jnOf (ms : List J5) : Jn := ⟨ms.length, fun k => (ms.getD k ⟨0, 0, 0, 0, 0⟩).a, fun k => (ms.getD k ⟨0, 0, 0, 0, 0⟩).b, fun k => (ms.getD k ⟨0, 0, 0, 0, 0⟩).c, fun k => (ms.getD k ⟨0, 0, 0, 0, 0⟩).d, fun k => (ms.getD k ⟨0, 0, 0, 0, 0⟩).e⟩
def mnOf (ms : List M4) : Mn := ⟨ms.length, fun k => (ms.getD k ⟨0, 0, 0, 0⟩).a, fun k => (ms.getD k ⟨0, 0, 0, 0⟩).b, fun k => (ms.getD k ⟨0, 0, 0, 0⟩).c, fun k => (ms.getD k ⟨0, 0, 0, 0⟩).d⟩
theorem jn_den (ms : List J5) : (jnOf ms).sv.den = .isl 5 (ms.map J5.av) := by
  simp only [jnOf, Jn.sv, SV.den]
  congr 1
  apply List.ext_getElem
  · simp
  · intro i h1 h2
    simp at h1 h2
    simp [SV.denL, SV.den, J5.av, h2]
theorem mn_den (ms : List M4) : (mnOf ms).sv.den = .isl 4 (ms.map M4.av) := by
  simp only [mnOf, Mn.sv, SV.den]
  congr 1
  apply List.ext_getElem
  · simp
  · intro i h1 h2
    simp at h1 h2
    simp [SV.denL, SV.den, M4.av, h2]
theorem read_net {base : Nat} {v : Value} {d : DataW H} {p : List MemPlace} (hv : Value.okWide Try.prog w .any base 27 v) (h : DataW.Trod enc Try.prog w 0 (fun _ => true) true 27 v d p) :
    ∃ x : Nw, Rel (cellf w) (fun b => b < w.heap.size) 0 noβ x.sv.den v := by
  obtain ⟨fuel, h⟩ := h
  unfold Value.okWide at hv
  rw [Try.underlying27] at hv
  obtain ⟨cs, rfl, hsz, _⟩ := hv
  obtain ⟨xs, k, _, _, hlen, hxs, hel⟩ := DataW.trod_struct Try.underlying27 h
  simp at hxs
  have hsz2 : cs.size = 4 := by rw [hsz]; kernel_rfl
  have c24 : Try.prog.cellsOf 24 = 1 := by kernel_rfl
  have c25 : Try.prog.cellsOf 25 = 1 := by kernel_rfl
  have get : ∀ i, i < 3 → ∃ x, xs[i]? = some x := fun i hi => ⟨_, List.getElem?_eq_getElem (by omega)⟩
  obtain ⟨L⟩ := cs
  match L, hsz2 with
  | [c0, c1, c2, c3], _ =>
    have fld : ∀ (i : Nat) (hi : i < 3) (f : Field) {cs' : List Value}, xs[i]? = DataW.trod enc Try.prog w 0 (fun _ => true) true k f.type cs' → ∃ y, DataW.trod enc Try.prog w 0 (fun _ => true) true k f.type cs' = some y := fun i hi f cs' e => by
      obtain ⟨x, hx⟩ := get i hi
      exact ⟨x, by rw [← e, hx]⟩
    obtain ⟨_, h0⟩ := fld 0 (by omega) _ (hel 0 _ rfl).symm
    obtain ⟨_, h1⟩ := fld 1 (by omega) _ (hel 1 _ rfl).symm
    obtain ⟨_, h2⟩ := fld 2 (by omega) _ (hel 2 _ rfl).symm
    replace h0 : DataW.trod enc Try.prog w 0 (fun _ => true) true k 23 ([c0, c1, c2, c3].take (Try.prog.cellsOf 23)) = some _ := h0
    replace h1 : DataW.trod enc Try.prog w 0 (fun _ => true) true k 24 ([c2, c3].take (Try.prog.cellsOf 24)) = some _ := h1
    replace h2 : DataW.trod enc Try.prog w 0 (fun _ => true) true k 25 ([c3].take (Try.prog.cellsOf 25)) = some _ := h2
    rw [cells23] at h0
    rw [c24] at h1
    rw [c25] at h2
    obtain ⟨a, b, e0⟩ := read_two h0
    obtain ⟨v1, js, e1, r1, _, _⟩ := rel_slice J5.cs J5.av (fun m => rfl) (show Try.prog.cellsOf 50 = 5 by kernel_rfl) (by omega) Try.underlying24 read_jn h1
    obtain ⟨v2, ms, e2, r2, _, _⟩ := rel_slice M4.cs M4.av (fun m => rfl) (show Try.prog.cellsOf 54 = 4 by kernel_rfl) (by omega) Try.underlying25 read_main h2
    simp at e0 e1 e2
    obtain ⟨rfl, rfl⟩ := e0
    subst e1 e2
    refine ⟨⟨a, b, jnOf js, mnOf ms⟩, ?_⟩
    rw [← jn_den] at r1
    rw [← mn_den] at r2
    simp only [Nw.sv, SV.den, SV.denL]
    exact RelL.agg (RelL.mk (.sc _) (RelL.mk (.sc _) (RelL.mk r1 (RelL.mk r2 RelL.mk_nil))))
theorem own : ownKnob Try.prog.godebug = none := by kernel_rfl
theorem laid : laidOutB Try.prog = true := by kernel_rfl
theorem read27 : Try.prog.readableRec 27 = true ∧ 27 < Try.prog.types.size := ⟨by kernel_rfl, of_decide_eq_true (by kernel_rfl)⟩
end Go.Proofs.Ytpannbkmpbioiaa
