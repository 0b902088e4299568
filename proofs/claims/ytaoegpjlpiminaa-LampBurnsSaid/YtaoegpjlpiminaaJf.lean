/- LampBurns: for every night, minute and number more, the statement that lamps burn in each minute in which it is dark and not the moonlight for which they are put out, and in no other one, returns true. Conditions: none but those of the arguments types. -/
import Derived.ProofKit
import Derived.Carry
import Derived.Test.YtaoegpjlpiminaaRows
import Derived.Test.YtaoegpjlpiminaaJcJcVJdJe
import Derived.Test.YtaoegpjlpiminaaLwLv
set_option linter.unusedVariables false
set_option linter.unusedSimpArgs false
set_option maxRecDepth 100000
namespace Go.Proofs.Ytaoegpjlpiminaa
open Go.Lg Go.ChangeShapes Go.WideShapes Go.ChangeAt Go.RowKit
attribute [local irreducible] bodyH funS
variable {H : Type} {enc : TypeId × Value → H} {w : World}
def i64P (z : Int) : Prop := -9223372036854775808 ≤ z ∧ z ≤ 9223372036854775807
theorem wf_i64 {z : Int} (h : (Lit.int .i64 z).wf = true) : i64P z := by
  have h : (decide (IntKind.min .i64 ≤ z) && decide (z ≤ IntKind.max .i64)) = true := h
  simp only [Bool.and_eq_true, decide_eq_true_eq] at h
  have e1 : IntKind.min .i64 = -9223372036854775808 := by decide
  have e2 : IntKind.max .i64 = 9223372036854775807 := by decide
  rw [e1, e2] at h
  exact h
theorem cells3 : Try.prog.cellsOf 3 = 1 := by kernel_rfl
theorem int_fld {n : Nat} {c : Value} {x : DataW H × List MemPlace} (h : DataW.trod enc Try.prog w 0 (fun _ => true) true n 3 [c] = some x) : ∃ z, c = .int .i64 z ∧ i64P z := by
  obtain ⟨z, h5, _, h6⟩ := DataW.trod_int Try.underlying3 h
  exact ⟨z, by simpa using h5, wf_i64 h6⟩
structure C5 where
  t : Nt
  h : i64P t.du ∧ i64P t.da ∧ i64P t.ri ∧ i64P t.se ∧ i64P t.le
def C5.cs (c : C5) : List Value := [.int .i64 c.t.du, .int .i64 c.t.da, .int .i64 c.t.ri, .int .i64 c.t.se, .int .i64 c.t.le]
theorem read_nt (n : Nat) (cs : List Value) (y : DataW H × List MemPlace) (h : DataW.trod enc Try.prog w 0 (fun _ => true) true n 23 cs = some y) : ∃ m : C5, cs = m.cs ∧ m.cs.length = 5 := by
  obtain ⟨xs, k, _, _, hlen, hxs, hel⟩ := DataW.trod_struct Try.underlying23 h
  simp at hxs
  have hsz2 : cs.length = 5 := by rw [hlen]; kernel_rfl
  have get : ∀ i, i < 5 → ∃ x, xs[i]? = some x := fun i hi => ⟨_, List.getElem?_eq_getElem (by omega)⟩
  match cs, hsz2 with
  | [c0, c1, c2, c3, c4], _ =>
    have fld : ∀ (i : Nat) (hi : i < 5) (f : Field) {cs' : List Value}, xs[i]? = DataW.trod enc Try.prog w 0 (fun _ => true) true k f.type cs' → ∃ y, DataW.trod enc Try.prog w 0 (fun _ => true) true k f.type cs' = some y := fun i hi f cs' e => by
      obtain ⟨x, hx⟩ := get i hi
      exact ⟨x, by rw [← e, hx]⟩
    obtain ⟨_, h0⟩ := fld 0 (by omega) _ (hel 0 _ rfl).symm
    obtain ⟨_, h1⟩ := fld 1 (by omega) _ (hel 1 _ rfl).symm
    obtain ⟨_, h2⟩ := fld 2 (by omega) _ (hel 2 _ rfl).symm
    obtain ⟨_, h3⟩ := fld 3 (by omega) _ (hel 3 _ rfl).symm
    obtain ⟨_, h4⟩ := fld 4 (by omega) _ (hel 4 _ rfl).symm
    replace h0 : DataW.trod enc Try.prog w 0 (fun _ => true) true k 3 ([c0, c1, c2, c3, c4].take (Try.prog.cellsOf 3)) = some _ := h0
    replace h1 : DataW.trod enc Try.prog w 0 (fun _ => true) true k 3 ([c1, c2, c3, c4].take (Try.prog.cellsOf 3)) = some _ := h1
    replace h2 : DataW.trod enc Try.prog w 0 (fun _ => true) true k 3 ([c2, c3, c4].take (Try.prog.cellsOf 3)) = some _ := h2
    replace h3 : DataW.trod enc Try.prog w 0 (fun _ => true) true k 3 ([c3, c4].take (Try.prog.cellsOf 3)) = some _ := h3
    replace h4 : DataW.trod enc Try.prog w 0 (fun _ => true) true k 3 ([c4].take (Try.prog.cellsOf 3)) = some _ := h4
    rw [cells3] at h0 h1 h2 h3 h4
    obtain ⟨z0, rfl, g0⟩ := int_fld h0
    obtain ⟨z1, rfl, g1⟩ := int_fld h1
    obtain ⟨z2, rfl, g2⟩ := int_fld h2
    obtain ⟨z3, rfl, g3⟩ := int_fld h3
    obtain ⟨z4, rfl, g4⟩ := int_fld h4
    exact ⟨⟨⟨z0, z1, z2, z3, z4⟩, g0, g1, g2, g3, g4⟩, rfl, rfl⟩
theorem read_night {base : Nat} {v : Value} {d : DataW H} {p : List MemPlace} (hv : Value.okWide Try.prog w .any base 23 v) (h : DataW.Trod enc Try.prog w 0 (fun _ => true) true 23 v d p) :
    ∃ t : Nt, Rel (cellf w) (fun b => b < w.heap.size) 0 noβ t.sv.den v := by
  obtain ⟨fuel, h⟩ := h
  unfold Value.okWide at hv
  rw [Try.underlying23] at hv
  obtain ⟨cs, rfl, hsz, _⟩ := hv
  obtain ⟨m, e, _⟩ := read_nt _ _ _ h
  refine ⟨m.t, ?_⟩
  obtain ⟨L⟩ := cs
  have e : L = m.cs := e
  subst e
  simp only [Nt.sv, SV.den, SV.denL, C5.cs]
  exact RelL.agg (RelL.mk (.sc _) (RelL.mk (.sc _) (RelL.mk (.sc _) (RelL.mk (.sc _) (RelL.mk (.sc _) RelL.mk_nil)))))
theorem u8_of {a : Int} (h : (Lit.int .u8 a).wf = true) : 0 ≤ a ∧ a ≤ 255 := by
  simp only [Lit.wf, Bool.and_eq_true, decide_eq_true_eq, IntKind.min, IntKind.max, IntKind.signed, IntKind.bits, Bool.false_eq_true, if_false] at h
  omega
theorem u16_of {a : Int} (h : (Lit.int .u16 a).wf = true) : 0 ≤ a ∧ a ≤ 65535 := by
  simp only [Lit.wf, Bool.and_eq_true, decide_eq_true_eq, IntKind.min, IntKind.max, IntKind.signed, IntKind.bits, Bool.false_eq_true, if_false] at h
  omega
theorem own : ownKnob Try.prog.godebug = none := by kernel_rfl
theorem laid : laidOutB Try.prog = true := by kernel_rfl
theorem rdb (t : TypeId) (h : (Try.prog.readableRec t && decide (t < Try.prog.types.size)) = true) : Try.prog.readableRec t = true ∧ t < Try.prog.types.size := by
  simpa using h
theorem lb_does {n : Nt} {a b : Int} (ha : (Lit.int .u16 a).wf = true) (hb : (Lit.int .u8 b).wf = true) : Does Try.prog 7 false (SV.denL [n.sv, .int .u16 a, .int .u8 b]) (.sc (.bool true)) := by
  have hh := lb_true (n := n) (a := a) (b := b) (u16_of ha) (u8_of hb)
  unfold lbG at hh
  exact funH_does csB_sound nilS_x nilS_ic mixed hh
theorem lb_lifted (os : Os) (started : os.Started) (H : Type) (enc : TypeId × Value → H) :
    ReturnsInHanded {} Try.checked os 7 .any (Rows.lampBurnsSpec.pre6 enc Try.prog Try.f7 Rows.lampBurnsRow.domain false) (Rows.lampBurnsSpec.post enc Try.prog Try.f7 false true false false) := by
  refine returnsInHanded_of_change (C := Try.checked) own started (by kernel_rfl) Try.func7
    (ChangeSpec.witness6 (enc := enc) (C := Try.checked) false ⟨#[], #[.agg #[.int .i64 0, .int .i64 0, .int .i64 0, .int .i64 0, .int .i64 0], .int .u16 0, .int .u8 0], []⟩ 8 (by kernel_rfl) (by kernel_rfl) (by kernel_rfl) (by kernel_rfl)) ?_
  intro W base args ds gs before hval0 hW hcnd _
  have hval : ∀ (j : Nat) t v, Try.f7.params[j]? = some t → args[j]? = some v → Value.okWide Try.prog W .any base t v := hval0
  have hW0 : DataW.Whole enc Try.prog Try.f7.params.toList Rows.lampBurnsSpec.vars false W args.toList ds gs before := hW
  obtain ⟨p, q, hA0, hV, rfl, hfz, hnd⟩ := hW
  have hA : DataW.TrodAll enc Try.prog W 0 (fun _ => true) true Try.f7.params.toList args.toList ds p := hA0
  rw [Try.params7] at hA hval
  obtain ⟨v0, v1, v2, d0, d1, d2, p0, p1, p2, rfl, rfl, rfl, h0, h1, h2⟩ := trodAll_three hA
  obtain ⟨rfl, rfl⟩ := trodVars_none hV
  obtain ⟨T, hr0⟩ := read_night (hval 0 23 v0 rfl rfl) h0
  obtain ⟨a, rfl, rfl, rfl, wa⟩ := open_int Try.underlying52 (hval 1 52 v1 rfl rfl) h1
  obtain ⟨b, rfl, rfl, rfl, wb⟩ := open_int Try.underlying5 (hval 2 5 v2 rfl rfl) h2
  have hd := lb_does (n := T) (a := a) (b := b) wa wb
  refine law_calls laid (f := 7) (fn := Try.f7) (tb := 4) (by
    rw [Try.params7]
    intro t ht
    simp at ht
    rcases ht with rfl | rfl | rfl <;> exact rdb _ (by kernel_rfl)) rfl (by kernel_rfl) Try.underlying4 rfl hW0 ?_ hd
  exact RelL.mk hr0 (RelL.mk (.sc _) (RelL.mk (.sc _) RelL.mk_nil))
theorem lamp_burns_holds : Rows.LampBurnsSaid :=
  OpenClaim.holds_of_wide 7 Try.f7 rfl rfl rfl rfl rfl rfl rfl ⟨rfl, rfl, rfl, rfl, rfl⟩ rfl rfl rfl rfl rfl (by kernel_rfl) Try.func7 (by kernel_rfl)
    (of_decide_eq_true (by kernel_rfl)) (by unfold Func.isWrapper; first | (rw [if_pos (by decide +kernel)]; kernel_rfl) | (rw [if_neg (by decide +kernel)]; exact ⟨rfl, rfl⟩))
    (fun os started H enc _ => lb_lifted os started H enc)
end Go.Proofs.Ytaoegpjlpiminaa
