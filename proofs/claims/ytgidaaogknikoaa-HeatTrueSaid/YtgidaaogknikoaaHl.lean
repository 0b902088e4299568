/- The mixture that the program finds has the volume, the heat and the cost that it says, whatever the true heats are, and no other right mixture is cheaper, or as cheap and before it. -/
import Derived.Test.YtgidaaogknikoaaRows
import Derived.Test.YtgidaaogknikoaaHhHhVHiHjHk
import Derived.Test.YtgidaaogknikoaaGn
set_option linter.unusedVariables false
set_option linter.unusedSimpArgs false
set_option maxRecDepth 100000
namespace Go.Proofs.Ytgidaaogknikoaa
open Go.Lg Go.ChangeShapes Go.WideShapes Go.ChangeAt Go.RowKit
attribute [local irreducible] bodyH funS
variable {H : Type} {enc : TypeId × Value → H} {w : World}
abbrev U2 : Type := { z : Int // 0 ≤ z ∧ z < 65536 }
def U2.cs (m : U2) : List Value := [.int .u16 m.1]
def U2.av (m : U2) : AV := .sc (.int .u16 m.1)
theorem read_u (n : Nat) (cs : List Value) (y : DataW H × List MemPlace) (h : DataW.trod enc Try.prog w 0 (fun _ => true) true n 47 cs = some y) : ∃ m : U2, cs = U2.cs m ∧ (U2.cs m).length = 1 := by
  obtain ⟨z, h5, _, hw⟩ := DataW.trod_int Try.underlying47 h
  simp only [Lit.wf, Bool.and_eq_true, decide_eq_true_eq, IntKind.min, IntKind.max, IntKind.signed, IntKind.bits, Bool.false_eq_true, if_false] at hw
  exact ⟨⟨z, by omega, by omega⟩, h5, rfl⟩
def byOf (ms : List U2) : Bs := ⟨ms.length, fun k => (ms.getD k ⟨0, by omega⟩).1⟩
theorem by_den (ms : List U2) : (byOf ms).sv.den = .isl 1 (ms.map U2.av) := by
  simp only [byOf, Bs.sv, SV.den]
  congr 1
  apply List.ext_getElem
  · simp
  · intro i h1 h2
    simp at h1 h2
    simp [U2.av, h2]
theorem by_ok (ms : List U2) : (byOf ms).n = 0 ∨ okBs (byOf ms) := by
  by_cases h : ms.length = 0
  · exact .inl h
  · exact .inr ⟨by show 1 ≤ ms.length; omega, fun k hk => (ms.getD k ⟨0, by omega⟩).2⟩
theorem read_by {base : Nat} {v : Value} {d : DataW H} {p : List MemPlace} (hv : Value.okWide Try.prog w .any base 46 v) (h : DataW.Trod enc Try.prog w 0 (fun _ => true) true 46 v d p) :
    ∃ b : Bs, (b.n = 0 ∨ okBs b) ∧ Rel (cellf w) (fun b => b < w.heap.size) 0 noβ b.sv.den v := by
  obtain ⟨fuel, h⟩ := h
  have hc : v.cells.toList = [v] := by
    unfold Value.okWide at hv
    rw [Try.underlying46] at hv
    cases v <;> first | rfl | (simp [Cell.okWide, Cell.ok, Try.underlying46] at hv)
  rw [hc] at h
  obtain ⟨v', ms, e, hr, _, _⟩ := rel_slice U2.cs U2.av (fun m => rfl) (show Try.prog.cellsOf 47 = 1 by kernel_rfl) (by omega) Try.underlying46 read_u h
  cases e
  refine ⟨byOf ms, by_ok ms, ?_⟩
  rw [by_den]
  exact hr
theorem read46 : Try.prog.readableRec 46 = true ∧ 46 < Try.prog.types.size := ⟨by kernel_rfl, of_decide_eq_true (by kernel_rfl)⟩
structure C5 where
  t : Sup
  h : i64P t.lo ∧ i64P t.hi ∧ i64P t.v ∧ i64P t.mo ∧ i64P t.pay
instance : Inhabited C5 := ⟨⟨⟨0, 0, 0, 0, 0⟩, by unfold i64P; decide⟩⟩
def C5.cs (c : C5) : List Value := [.int .i64 c.t.lo, .int .i64 c.t.hi, .int .i64 c.t.v, .int .i64 c.t.mo, .int .i64 c.t.pay]
def C5.av (c : C5) : AV := .agg [.sc (.int .i64 c.t.lo), .sc (.int .i64 c.t.hi), .sc (.int .i64 c.t.v), .sc (.int .i64 c.t.mo), .sc (.int .i64 c.t.pay)]
theorem read_sup (n : Nat) (cs : List Value) (y : DataW H × List MemPlace) (h : DataW.trod enc Try.prog w 0 (fun _ => true) true n 28 cs = some y) : ∃ m : C5, cs = m.cs ∧ m.cs.length = 5 := by
  obtain ⟨xs, k, _, _, hlen, hxs, hel⟩ := DataW.trod_struct Try.underlying28 h
  simp at hxs
  have hsz2 : cs.length = 5 := by rw [hlen]; kernel_rfl
  have get : ∀ i, i < 4 → ∃ x, xs[i]? = some x := fun i hi => ⟨_, List.getElem?_eq_getElem (by omega)⟩
  match cs, hsz2 with
  | [c0, c1, c2, c3, c4], _ =>
    have fld : ∀ (i : Nat) (hi : i < 4) (f : Field) {cs' : List Value}, xs[i]? = DataW.trod enc Try.prog w 0 (fun _ => true) true k f.type cs' → ∃ y, DataW.trod enc Try.prog w 0 (fun _ => true) true k f.type cs' = some y := fun i hi f cs' e => by
      obtain ⟨x, hx⟩ := get i hi
      exact ⟨x, by rw [← e, hx]⟩
    obtain ⟨_, h0⟩ := fld 0 (by omega) _ (hel 0 _ rfl).symm
    obtain ⟨_, h1⟩ := fld 1 (by omega) _ (hel 1 _ rfl).symm
    obtain ⟨_, h2⟩ := fld 2 (by omega) _ (hel 2 _ rfl).symm
    obtain ⟨_, h3⟩ := fld 3 (by omega) _ (hel 3 _ rfl).symm
    replace h0 : DataW.trod enc Try.prog w 0 (fun _ => true) true k 26 ([c0, c1, c2, c3, c4].take (Try.prog.cellsOf 26)) = some _ := h0
    replace h1 : DataW.trod enc Try.prog w 0 (fun _ => true) true k 3 ([c2, c3, c4].take (Try.prog.cellsOf 3)) = some _ := h1
    replace h2 : DataW.trod enc Try.prog w 0 (fun _ => true) true k 3 ([c3, c4].take (Try.prog.cellsOf 3)) = some _ := h2
    replace h3 : DataW.trod enc Try.prog w 0 (fun _ => true) true k 3 ([c4].take (Try.prog.cellsOf 3)) = some _ := h3
    rw [cells3] at h1 h2 h3
    rw [cells26] at h0
    obtain ⟨z0, z1, rfl, rfl, g0, g1⟩ := spn_fld h0
    obtain ⟨z2, rfl, g2⟩ := int_fld h1
    obtain ⟨z3, rfl, g3⟩ := int_fld h2
    obtain ⟨z4, rfl, g4⟩ := int_fld h3
    exact ⟨⟨⟨z0, z1, z2, z3, z4⟩, g0, g1, g2, g3, g4⟩, rfl, rfl⟩
def slC (ms : List C5) : Sl := ⟨ms.length, fun k => (ms.getD k default).t⟩
theorem sl_den (ms : List C5) : (slC ms).sv.den = .isl 5 (ms.map C5.av) := by
  simp only [slC, Sl.sv, SV.den]
  congr 1
  apply List.ext_getElem
  · simp
  · intro i h1 h2
    simp at h1 h2
    simp [Sup.sv, SV.denL, SV.den, C5.av, h2]
theorem read_sups {base : Nat} {v : Value} {d : DataW H} {p : List MemPlace} (hv : Value.okWide Try.prog w .any base 22 v) (h : DataW.Trod enc Try.prog w 0 (fun _ => true) true 22 v d p) :
    ∃ L : Sl, Rel (cellf w) (fun b => b < w.heap.size) 0 noβ L.sv.den v := by
  obtain ⟨fuel, h⟩ := h
  have hc : v.cells.toList = [v] := by
    unfold Value.okWide at hv
    rw [Try.underlying22] at hv
    cases v <;> first | rfl | (simp [Cell.okWide, Cell.ok, Try.underlying22] at hv)
  rw [hc] at h
  obtain ⟨v', ms, e, hr, _, _⟩ := rel_slice C5.cs C5.av (fun m => rfl) (show Try.prog.cellsOf 28 = 5 by kernel_rfl) (by omega) Try.underlying22 read_sup h
  cases e
  refine ⟨slC ms, ?_⟩
  rw [sl_den]
  exact hr
theorem read22 : Try.prog.readableRec 22 = true ∧ 22 < Try.prog.types.size := ⟨by kernel_rfl, of_decide_eq_true (by kernel_rfl)⟩
theorem trodAll_five {P : Program} {w : World} {base : Nat} {spare : Nat → Bool} {held : Bool} {t0 t1 t2 t3 t4 : TypeId} {args : Array Value} {ds : List (DataW H)} {ps : List MemPlace} (h : DataW.TrodAll enc P w base spare held [t0, t1, t2, t3, t4] args.toList ds ps) :
    ∃ v0 v1 v2 v3 v4 d0 d1 d2 d3 d4 p0 p1 p2 p3 p4, args = #[v0, v1, v2, v3, v4] ∧ ds = [d0, d1, d2, d3, d4] ∧ ps = p0 ++ (p1 ++ (p2 ++ (p3 ++ (p4 ++ [])))) ∧ DataW.Trod enc P w base spare held t0 v0 d0 p0 ∧ DataW.Trod enc P w base spare held t1 v1 d1 p1 ∧ DataW.Trod enc P w base spare held t2 v2 d2 p2 ∧ DataW.Trod enc P w base spare held t3 v3 d3 p3 ∧ DataW.Trod enc P w base spare held t4 v4 d4 p4 := by
  obtain ⟨v0, vs0, d0, ds0, p0, q0, hargs, rfl, rfl, h0, r0⟩ := trodAll_cons h
  obtain ⟨v1, vs1, d1, ds1, p1, q1, rfl, rfl, rfl, h1, r1⟩ := trodAll_cons r0
  obtain ⟨v2, vs2, d2, ds2, p2, q2, rfl, rfl, rfl, h2, r2⟩ := trodAll_cons r1
  obtain ⟨v3, vs3, d3, ds3, p3, q3, rfl, rfl, rfl, h3, r3⟩ := trodAll_cons r2
  obtain ⟨v4, vs4, d4, ds4, p4, q4, rfl, rfl, rfl, h4, r4⟩ := trodAll_cons r3
  obtain ⟨rfl, rfl, rfl⟩ := trodAll_nil r4
  exact ⟨v0, v1, v2, v3, v4, d0, d1, d2, d3, d4, p0, p1, p2, p3, p4, by simpa using congrArg List.toArray hargs, rfl, rfl, h0, h1, h2, h3, h4⟩
theorem htu_lifted (os : Os) (started : os.Started) (H : Type) (enc : TypeId × Value → H) :
    ReturnsInHanded {} Try.checked os 5 .any (Rows.heatTrueSpec.pre6 enc Try.prog Try.f5 Rows.heatTrueRow.domain false) (Rows.heatTrueSpec.post enc Try.prog Try.f5 false true false false) := by
  refine returnsInHanded_of_change (C := Try.checked) own started (by kernel_rfl) Try.func5
    (ChangeSpec.witness6 (enc := enc) (C := Try.checked) false ⟨#[], #[.slice none 0 0, .int .i64 0, .int .i64 0, .int .i64 0, .slice none 0 0], []⟩ 8 (by kernel_rfl) (by kernel_rfl) (by kernel_rfl) (by kernel_rfl)) ?_
  intro W base args ds gs before hval0 hW hcnd _
  have hval : ∀ (j : Nat) t v, Try.f5.params[j]? = some t → args[j]? = some v → Value.okWide Try.prog W .any base t v := hval0
  have hW0 : DataW.Whole enc Try.prog Try.f5.params.toList Rows.heatTrueSpec.vars false W args.toList ds gs before := hW
  obtain ⟨p, q, hA0, hV, rfl, hfz, hnd⟩ := hW
  have hA : DataW.TrodAll enc Try.prog W 0 (fun _ => true) true Try.f5.params.toList args.toList ds p := hA0
  rw [Try.params5] at hA hval
  obtain ⟨v0, v1, v2, v3, v4, d0, d1, d2, d3, d4, p0, p1, p2, p3, p4, rfl, rfl, rfl, h0, h1, h2, h3, h4⟩ := trodAll_five hA
  obtain ⟨rfl, rfl⟩ := trodVars_none hV
  obtain ⟨L, hr0⟩ := read_sups (hval 0 22 v0 rfl rfl) h0
  obtain ⟨a1, rfl, rfl, rfl, w1⟩ := open_int Try.underlying3 (hval 1 3 v1 rfl rfl) h1
  obtain ⟨a2, rfl, rfl, rfl, w2⟩ := open_int Try.underlying3 (hval 2 3 v2 rfl rfl) h2
  obtain ⟨a3, rfl, rfl, rfl, w3⟩ := open_int Try.underlying3 (hval 3 3 v3 rfl rfl) h3
  obtain ⟨b, hb, hr4⟩ := read_by (hval 4 46 v4 rfl rfl) h4
  have hd := htu_does (L := L) (v := a1) (a := a2) (b := a3) hb
  refine law_calls laid (f := 5) (fn := Try.f5) (tb := 4) (by
    rw [Try.params5]
    intro t ht
    simp at ht
    rcases ht with rfl | rfl | rfl
    · exact read22
    · exact read3
    · exact read46) rfl (by kernel_rfl) Try.underlying4 rfl hW0 ?_ hd
  exact RelL.mk hr0 (RelL.mk (.sc _) (RelL.mk (.sc _) (RelL.mk (.sc _) (RelL.mk hr4 RelL.mk_nil))))
theorem heat_true_holds : Rows.HeatTrueSaid :=
  OpenClaim.holds_of_wide 5 Try.f5 rfl rfl rfl rfl rfl rfl rfl ⟨rfl, rfl, rfl, rfl, rfl⟩ rfl rfl rfl rfl rfl (by kernel_rfl) Try.func5 (by kernel_rfl)
    (of_decide_eq_true (by kernel_rfl)) (by unfold Func.isWrapper; first | (rw [if_pos (by decide +kernel)]; kernel_rfl) | (rw [if_neg (by decide +kernel)]; exact ⟨rfl, rfl⟩))
    (fun os started H enc _ => htu_lifted os started H enc)
end Go.Proofs.Ytgidaaogknikoaa
