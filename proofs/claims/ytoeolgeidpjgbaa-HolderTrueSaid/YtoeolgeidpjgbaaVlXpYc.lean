/- The statement HolderTrue of layer 5 (holder) holds of the code at its commit: for all watches, all plans and all lists of numbers that there are, the law returns true. There are no conditions but the ones that the statement has. -/
import Derived.ProofKit
import Derived.Carry
import Derived.Test.YtoeolgeidpjgbaaVeVfVi
import Derived.Test.YtoeolgeidpjgbaaLwLv
import Derived.Test.YtoeolgeidpjgbaaVkXnXo
import Derived.Test.YtoeolgeidpjgbaaYaYaVYb
set_option linter.unusedVariables false
set_option maxRecDepth 100000
namespace Go.Proofs.Ytoeolgeidpjgbaa
open Go.Lg Go.ChangeShapes Go.WideShapes Go.ChangeAt Go.RowKit
attribute [local irreducible] funS
variable {H : Type} {enc : TypeId × Value → H} {w : World}

theorem read_ints {P : Program} {t : TypeId} {fs : Array Field} {n : Nat} {cs : List Value} {y : DataW H × List MemPlace} (hu : P.underlying t = some (.struct fs))
    (hf : ∀ (i : Nat) (f : Field), fs[i]? = some f → P.underlying f.type = some (.int .i64) ∧ f.offset = i ∧ P.cellsOf f.type = 1) (hc : P.cellsOf t = fs.size)
    (h : DataW.trod enc P w 0 (fun _ => true) true n t cs = some y) :
    cs.length = fs.size ∧ ∀ i, i < fs.size → ∃ z, cs[i]? = some (.int .i64 z) := by
  obtain ⟨xs, k, _, _, hlen, hxs, hel⟩ := DataW.trod_struct hu h
  rw [hc] at hlen
  refine ⟨hlen, fun i hi => ?_⟩
  have hfi : fs[i]? = some fs[i] := Array.getElem?_eq_getElem hi
  obtain ⟨h1, h2, h3⟩ := hf i _ hfi
  have h4 := hel i _ hfi
  rw [h2, h3] at h4
  have hx : xs[i]? = some (xs[i]'(by omega)) := List.getElem?_eq_getElem (by omega)
  rw [hx] at h4
  obtain ⟨z, h5, _, h6⟩ := DataW.trod_int h1 h4
  refine ⟨z, ?_⟩
  have := congrArg (fun l => l[0]?) h5
  simpa [List.getElem?_take, List.getElem?_drop] using this
theorem read_two {t : TypeId} {f g : Field} {n : Nat} {cs : List Value} {y : DataW H × List MemPlace} (hu : Try.prog.underlying t = some (.struct #[f, g]))
    (hf : f.type = 3 ∧ f.offset = 0) (hg : g.type = 3 ∧ g.offset = 1) (hc : Try.prog.cellsOf t = 2) (h : DataW.trod enc Try.prog w 0 (fun _ => true) true n t cs = some y) :
    ∃ m : Int × Int, cs = [.int .i64 m.1, .int .i64 m.2] ∧ [Value.int .i64 m.1, Value.int .i64 m.2].length = 2 := by
  obtain ⟨hl, hi⟩ := read_ints hu (by
    intro i e he
    match i, he with
    | 0, he => simp at he; subst he; rw [hf.1]; exact ⟨Try.underlying3, hf.2, by kernel_rfl⟩
    | 1, he => simp at he; subst he; rw [hg.1]; exact ⟨Try.underlying3, hg.2, by kernel_rfl⟩
    | i + 2, he => simp at he) (by rw [hc]; rfl) h
  obtain ⟨a, ha⟩ := hi 0 (by simp)
  obtain ⟨b, hb⟩ := hi 1 (by simp)
  refine ⟨(a, b), ?_, rfl⟩
  match cs, hl, ha, hb with
  | [x, y], _, ha, hb => simp at ha hb; subst ha hb; rfl
def pairA (m : Int × Int) : AV := .agg [.sc (.int .i64 m.1), .sc (.int .i64 m.2)]
theorem lifts_den (ms : List (Int × Int)) : (lifts ms.length (fun i => (ms.getD i (0, 0)).1) (fun i => (ms.getD i (0, 0)).2)).den = .isl 2 (ms.map pairA) := by
  simp only [lifts, SV.den]
  congr 1
  apply List.ext_getElem
  · simp
  · intro i h1 h2
    simp at h1 h2
    simp [SV.denL, SV.den, pairA, h2]

theorem own : ownKnob Try.prog.godebug = none := by kernel_rfl
theorem laid : laidOutB Try.prog = true := by kernel_rfl
end Go.Proofs.Ytoeolgeidpjgbaa

set_option linter.unusedVariables false
set_option maxRecDepth 100000
namespace Go.Proofs.Ytoeolgeidpjgbaa
open Go.Lg Go.ChangeShapes Go.WideShapes Go.ChangeAt Go.RowKit
attribute [local irreducible] funS
variable {H : Type} {enc : TypeId × Value → H} {w : World}
theorem int_fld {n : Nat} {c : Value} {x : DataW H × List MemPlace} (h : DataW.trod enc Try.prog w 0 (fun _ => true) true n 3 [c] = some x) : ∃ z, c = .int .i64 z := by
  obtain ⟨z, h5, _, _⟩ := DataW.trod_int Try.underlying3 h
  exact ⟨z, by simpa using h5⟩
theorem read_plan {base : Nat} {v : Value} {d : DataW H} {p : List MemPlace} (hv : Value.okWide Try.prog w .any base 35 v) (h : DataW.Trod enc Try.prog w 0 (fun _ => true) true 35 v d p) :
    ∃ ms : List Int, Rel (cellf w) (fun b => b < w.heap.size) 0 noβ (.isl 1 (ms.map fun z => .sc (.int .i64 z))) v := by
  obtain ⟨fuel, h⟩ := h
  have hc : v.cells.toList = [v] := by
    unfold Value.okWide at hv
    rw [Try.underlying35] at hv
    cases v <;> first | rfl | (simp [Cell.okWide, Cell.ok, Try.underlying35] at hv)
  rw [hc] at h
  obtain ⟨v', ms, e, hr, _, _⟩ := rel_slice (fun z : Int => [Value.int .i64 z]) (fun z => .sc (.int .i64 z)) (fun m => rfl) (show Try.prog.cellsOf 3 = 1 by kernel_rfl) (by omega) Try.underlying35
    (fun n cs y h => by
      obtain ⟨z, h5, _, _⟩ := DataW.trod_int Try.underlying3 h
      exact ⟨z, h5, rfl⟩) h
  cases e
  exact ⟨ms, hr⟩
theorem plan_den (ms : List Int) : (planV ms.length fun i => ms.getD i 0).den = .isl 1 (ms.map fun z => .sc (.int .i64 z)) := by
  simp only [planV, SV.den]
  congr 1
  apply List.ext_getElem
  · simp
  · intro i h1 h2
    simp at h1 h2
    simp [h2]
theorem read_watch {base : Nat} {v : Value} {d : DataW H} {p : List MemPlace} (hv : Value.okWide Try.prog w .any base 34 v) (h : DataW.Trod enc Try.prog w 0 (fun _ => true) true 34 v d p) :
    ∃ x : Wt, Rel (cellf w) (fun b => b < w.heap.size) 0 noβ x.sv.den v := by
  obtain ⟨fuel, h⟩ := h
  unfold Value.okWide at hv
  rw [Try.underlying34] at hv
  obtain ⟨cs, rfl, hsz, _⟩ := hv
  obtain ⟨xs, k, _, _, hlen, hxs, hel⟩ := DataW.trod_struct Try.underlying34 h
  simp at hxs
  have hsz2 : cs.size = 10 := by rw [hsz]; kernel_rfl
  have c3 : Try.prog.cellsOf 3 = 1 := by kernel_rfl
  have c24 : Try.prog.cellsOf 24 = 2 := by kernel_rfl
  have c32 : Try.prog.cellsOf 32 = 1 := by kernel_rfl
  have get : ∀ i, i < 9 → ∃ x, xs[i]? = some x := fun i hi => ⟨_, List.getElem?_eq_getElem (by omega)⟩
  obtain ⟨L⟩ := cs
  match L, hsz2 with
  | [c0, c1, c2, c3', c4, c5, c6, c7, c8, c9], _ =>
    have fld : ∀ (i : Nat) (hi : i < 9) (f : Field) {cs' : List Value}, xs[i]? = DataW.trod enc Try.prog w 0 (fun _ => true) true k f.type cs' → ∃ y, DataW.trod enc Try.prog w 0 (fun _ => true) true k f.type cs' = some y := fun i hi f cs' e => by
      obtain ⟨x, hx⟩ := get i hi
      exact ⟨x, by rw [← e, hx]⟩
    obtain ⟨_, h0⟩ := fld 0 (by omega) _ (hel 0 _ rfl).symm
    obtain ⟨_, h1⟩ := fld 1 (by omega) _ (hel 1 _ rfl).symm
    obtain ⟨_, h2⟩ := fld 2 (by omega) _ (hel 2 _ rfl).symm
    obtain ⟨_, h3⟩ := fld 3 (by omega) _ (hel 3 _ rfl).symm
    obtain ⟨_, h4⟩ := fld 4 (by omega) _ (hel 4 _ rfl).symm
    obtain ⟨_, h5⟩ := fld 5 (by omega) _ (hel 5 _ rfl).symm
    obtain ⟨_, h6⟩ := fld 6 (by omega) _ (hel 6 _ rfl).symm
    obtain ⟨_, h7⟩ := fld 7 (by omega) _ (hel 7 _ rfl).symm
    obtain ⟨_, h8⟩ := fld 8 (by omega) _ (hel 8 _ rfl).symm
    simp only [Value.cells] at h0 h1 h2 h3 h4 h5 h6 h7 h8
    obtain ⟨z0, rfl⟩ := int_fld h0
    obtain ⟨z1, rfl⟩ := int_fld h1
    obtain ⟨m2, e2, _⟩ := read_two Try.underlying24 ⟨rfl, rfl⟩ ⟨rfl, rfl⟩ (by kernel_rfl) h2
    obtain ⟨v3, ds, e3, r3, _, _⟩ := rel_slice (fun m : Int × Int => [Value.int .i64 m.1, Value.int .i64 m.2]) pairA (fun m => rfl) (show Try.prog.cellsOf 24 = 2 by kernel_rfl) (by omega) Try.underlying32
      (fun n cs y h => read_two Try.underlying24 ⟨rfl, rfl⟩ ⟨rfl, rfl⟩ (by kernel_rfl) h) h3
    obtain ⟨z4, rfl⟩ := int_fld h4
    obtain ⟨z5, rfl⟩ := int_fld h5
    obtain ⟨z6, rfl⟩ := int_fld h6
    obtain ⟨z7, rfl⟩ := int_fld h7
    obtain ⟨z8, rfl⟩ := int_fld h8
    simp at e2
    simp [c32] at e3
    obtain ⟨rfl, rfl⟩ := e2
    subst e3
    refine ⟨⟨z0, z1, m2.1, m2.2, ds.length, fun i => (ds.getD i (0, 0)).1, fun i => (ds.getD i (0, 0)).2, z4, z5, z6, z7, z8⟩, ?_⟩
    have e := lifts_den ds
    simp only [lifts, SV.den] at e
    simp only [Wt.sv, SV.den, SV.denL]
    refine RelL.agg (RelL.mk (.sc _) (RelL.mk (.sc _) (RelL.mk (.sc _) (RelL.mk (.sc _) (RelL.mk ?_ (RelL.mk (.sc _) (RelL.mk (.sc _) (RelL.mk (.sc _) (RelL.mk (.sc _) (RelL.mk (.sc _) RelL.mk_nil))))))))))
    rw [← e] at r3
    exact r3
theorem read34 : Try.prog.readableRec 34 = true ∧ 34 < Try.prog.types.size := ⟨by kernel_rfl, of_decide_eq_true (by kernel_rfl)⟩
theorem read35 : Try.prog.readableRec 35 = true ∧ 35 < Try.prog.types.size := ⟨by kernel_rfl, of_decide_eq_true (by kernel_rfl)⟩
theorem holds_lifted (os : Os) (started : os.Started) (H : Type) (enc : TypeId × Value → H) :
    ReturnsInHanded {} Try.checked os 4 .any (Rows.holderHoldsSpec.pre6 enc Try.prog Try.f4 Rows.holderHoldsRow.domain false) (Rows.holderHoldsSpec.post enc Try.prog Try.f4 false true false false) := by
  refine returnsInHanded_of_change (C := Try.checked) own started (by kernel_rfl) Try.func4
    (ChangeSpec.witness6 (enc := enc) (C := Try.checked) false ⟨#[], #[.agg #[.int .i64 0, .int .i64 0, .int .i64 0, .int .i64 0, .slice none 0 0, .int .i64 0, .int .i64 0, .int .i64 0, .int .i64 0, .int .i64 0], .slice none 0 0], []⟩ 8 (by kernel_rfl) (by kernel_rfl) (by kernel_rfl) (by kernel_rfl)) ?_
  intro W base args ds gs before hval0 hW hcnd _
  have hval : ∀ (j : Nat) t v, Try.f4.params[j]? = some t → args[j]? = some v → Value.okWide Try.prog W .any base t v := hval0
  have hW0 : DataW.Whole enc Try.prog Try.f4.params.toList Rows.holderHoldsSpec.vars false W args.toList ds gs before := hW
  obtain ⟨p, q, hA0, hV, rfl, hfz, hnd⟩ := hW
  have hA : DataW.TrodAll enc Try.prog W 0 (fun _ => true) true Try.f4.params.toList args.toList ds p := hA0
  rw [Try.params4] at hA hval
  obtain ⟨v0, v1, d0, d1, p0, p1, rfl, rfl, rfl, h0, h1⟩ := trodAll_two hA
  obtain ⟨rfl, rfl⟩ := trodVars_none hV
  obtain ⟨x, hr0⟩ := read_watch (hval 0 34 v0 rfl rfl) h0
  obtain ⟨ms, hr1⟩ := read_plan (hval 1 35 v1 rfl rfl) h1
  have hd := holdsLaw_does x ms.length (fun i => ms.getD i 0)
  refine law_calls laid (f := 4) (fn := Try.f4) (tb := 4) (by
    rw [Try.params4]
    intro t ht
    simp at ht
    rcases ht with rfl | rfl
    · exact read34
    · exact read35) rfl (by kernel_rfl) Try.underlying4 rfl hW0 ?_ hd
  refine RelL.mk hr0 (RelL.mk ?_ RelL.mk_nil)
  rw [plan_den]
  exact hr1

theorem holder_holds_holds : Rows.HolderHoldsSaid :=
  OpenClaim.holds_of_wide 4 Try.f4 rfl rfl rfl rfl rfl rfl rfl ⟨rfl, rfl, rfl, rfl, rfl⟩ rfl rfl rfl rfl rfl (by kernel_rfl) Try.func4 (by kernel_rfl)
    (of_decide_eq_true (by kernel_rfl)) (by unfold Func.isWrapper; first | (rw [if_pos (by decide +kernel)]; kernel_rfl) | (rw [if_neg (by decide +kernel)]; exact ⟨rfl, rfl⟩))
    (fun os started H enc _ => holds_lifted os started H enc)
end Go.Proofs.Ytoeolgeidpjgbaa

set_option linter.unusedVariables false
set_option maxRecDepth 100000
namespace Go.Proofs.Ytoeolgeidpjgbaa
open Go.Lg Go.ChangeShapes Go.WideShapes Go.ChangeAt Go.RowKit
attribute [local irreducible] funS bodyH
variable {H : Type} {enc : TypeId × Value → H} {w : World}
abbrev U4 : Type := { z : Int // 0 ≤ z ∧ z < 4294967296 }
def U4.cs (m : U4) : List Value := [.int .u32 m.1]
def U4.av (m : U4) : AV := .sc (.int .u32 m.1)
theorem read_u (n : Nat) (cs : List Value) (y : DataW H × List MemPlace) (h : DataW.trod enc Try.prog w 0 (fun _ => true) true n 59 cs = some y) : ∃ m : U4, cs = U4.cs m ∧ (U4.cs m).length = 1 := by
  obtain ⟨z, h5, _, hw⟩ := DataW.trod_int Try.underlying59 h
  simp only [Lit.wf, Bool.and_eq_true, decide_eq_true_eq, IntKind.min, IntKind.max, IntKind.signed, IntKind.bits, Bool.false_eq_true, if_false] at hw
  exact ⟨⟨z, by omega, by omega⟩, h5, rfl⟩
def byOf (ms : List U4) : Bs := ⟨ms.length, fun k => (ms.getD k ⟨0, by omega⟩).1⟩
theorem by_den (ms : List U4) : (byOf ms).sv.den = .isl 1 (ms.map U4.av) := by
  simp only [byOf, Bs.sv, SV.den]
  congr 1
  apply List.ext_getElem
  · simp
  · intro i h1 h2
    simp at h1 h2
    simp [U4.av, h2]
theorem by_ok (ms : List U4) : (byOf ms).n = 0 ∨ okB (byOf ms) := by
  by_cases h : ms.length = 0
  · exact .inl h
  · exact .inr ⟨by show 1 ≤ ms.length; omega, fun k hk => (ms.getD k ⟨0, by omega⟩).2⟩
theorem read_by {base : Nat} {v : Value} {d : DataW H} {p : List MemPlace} (hv : Value.okWide Try.prog w .any base 58 v) (h : DataW.Trod enc Try.prog w 0 (fun _ => true) true 58 v d p) :
    ∃ b : Bs, (b.n = 0 ∨ okB b) ∧ Rel (cellf w) (fun b => b < w.heap.size) 0 noβ b.sv.den v := by
  obtain ⟨fuel, h⟩ := h
  have hc : v.cells.toList = [v] := by
    unfold Value.okWide at hv
    rw [Try.underlying58] at hv
    cases v <;> first | rfl | (simp [Cell.okWide, Cell.ok, Try.underlying58] at hv)
  rw [hc] at h
  obtain ⟨v', ms, e, hr, _, _⟩ := rel_slice U4.cs U4.av (fun m => rfl) (show Try.prog.cellsOf 59 = 1 by kernel_rfl) (by omega) Try.underlying58 read_u h
  cases e
  refine ⟨byOf ms, by_ok ms, ?_⟩
  rw [by_den]
  exact hr
theorem read58 : Try.prog.readableRec 58 = true ∧ 58 < Try.prog.types.size := ⟨by kernel_rfl, of_decide_eq_true (by kernel_rfl)⟩
theorem nilS_x {γ : GS → noGhost.S} : SoundXH Try.prog noGhost γ noX := noX_sound
theorem nilS_ic : SoundIH Try.prog (ictrs []) := ictrs_sound (by intro x hx; simp at hx)
theorem nilS_cs : SoundS Try.prog (ctrs []) := ctrs_sound (by intro x hx; simp at hx)
theorem pick_ok : pickC.Ok Try.prog := by
  refine ⟨by kernel_rfl, fun x k hk => ?_⟩
  simp only [pickC] at hk
  split at hk
  · rename_i lo hi z sz n f
    obtain ⟨rfl, hf, ho, hk⟩ := hk
    have hh := pick_true ho
    unfold pickG at hh
    refine ⟨_, ?_, hk⟩
    have e : SV.lst 1 n f = (bOf' n f).sv := by unfold Bs.sv bOf'; rw [← hf]
    rw [e]
    exact Does.plain (funH_does nilS_cs nilS_x nilS_ic mixed hh) trivial
  · exact hk.elim
theorem span33_ok : spnC.Ok Try.prog := by
  refine ⟨by kernel_rfl, fun x k hk => ?_⟩
  simp only [spnC] at hk
  split at hk
  · rename_i a b
    have hh := spnG_true a b
    unfold spnG at hh
    exact ⟨_, Does.plain (funH_does nilS_cs nilS_x nilS_ic mixed hh) (by simp [plainS, plainS.plainL]), hk⟩
  · exact hk.elim
theorem csT_sound : SoundS Try.prog csT := ctrsF_sound (ctrs_sound (by
  intro x hx
  simp only [List.mem_cons, List.not_mem_nil, or_false] at hx
  rcases hx with rfl | rfl | rfl
  · exact alive_ok
  · exact pick_ok
  · exact span33_ok)) (by
  intro x hx
  simp only [List.mem_cons, List.not_mem_nil, or_false] at hx
  rcases hx with rfl | rfl | rfl | rfl
  · exact great_okF
  · exact holdsK_okF
  · exact watch_okF
  · exact isPlan_okF)
theorem true_does (w : Wt) (m : Nat) (p : Nat → Int) (b : Bs) (h : b.n = 0 ∨ okB b) : Does Try.prog 8 false (SV.denL [w.sv, planV m p, b.sv]) (.sc (.bool true)) := by
  have hh := true_true w m p b h
  unfold trueG at hh
  exact funH_does csT_sound nilS_x nilS_ic mixed hh
theorem true_lifted (os : Os) (started : os.Started) (H : Type) (enc : TypeId × Value → H) :
    ReturnsInHanded {} Try.checked os 8 .any (Rows.holderTrueSpec.pre6 enc Try.prog Try.f8 Rows.holderTrueRow.domain false) (Rows.holderTrueSpec.post enc Try.prog Try.f8 false true false false) := by
  refine returnsInHanded_of_change (C := Try.checked) own started (by kernel_rfl) Try.func8
    (ChangeSpec.witness6 (enc := enc) (C := Try.checked) false ⟨#[], #[.agg #[.int .i64 0, .int .i64 0, .int .i64 0, .int .i64 0, .slice none 0 0, .int .i64 0, .int .i64 0, .int .i64 0, .int .i64 0, .int .i64 0], .slice none 0 0, .slice none 0 0], []⟩ 8 (by kernel_rfl) (by kernel_rfl) (by kernel_rfl) (by kernel_rfl)) ?_
  intro W base args ds gs before hval0 hW hcnd _
  have hval : ∀ (j : Nat) t v, Try.f8.params[j]? = some t → args[j]? = some v → Value.okWide Try.prog W .any base t v := hval0
  have hW0 : DataW.Whole enc Try.prog Try.f8.params.toList Rows.holderTrueSpec.vars false W args.toList ds gs before := hW
  obtain ⟨p, q, hA0, hV, rfl, hfz, hnd⟩ := hW
  have hA : DataW.TrodAll enc Try.prog W 0 (fun _ => true) true Try.f8.params.toList args.toList ds p := hA0
  rw [Try.params8] at hA hval
  obtain ⟨v0, v1, v2, d0, d1, d2, p0, p1, p2, rfl, rfl, rfl, h0, h1, h2⟩ := trodAll_three hA
  obtain ⟨rfl, rfl⟩ := trodVars_none hV
  obtain ⟨x, hr0⟩ := read_watch (hval 0 34 v0 rfl rfl) h0
  obtain ⟨ms, hr1⟩ := read_plan (hval 1 35 v1 rfl rfl) h1
  obtain ⟨y, hy, hr2⟩ := read_by (hval 2 58 v2 rfl rfl) h2
  have hd := true_does x ms.length (fun i => ms.getD i 0) y hy
  refine law_calls laid (f := 8) (fn := Try.f8) (tb := 4) (by
    rw [Try.params8]
    intro t ht
    simp at ht
    rcases ht with rfl | rfl | rfl
    · exact read34
    · exact read35
    · exact read58) rfl (by kernel_rfl) Try.underlying4 rfl hW0 ?_ hd
  refine RelL.mk hr0 (RelL.mk ?_ (RelL.mk hr2 RelL.mk_nil))
  rw [plan_den]
  exact hr1

theorem holder_true_holds : Rows.HolderTrueSaid :=
  OpenClaim.holds_of_wide 8 Try.f8 rfl rfl rfl rfl rfl rfl rfl ⟨rfl, rfl, rfl, rfl, rfl⟩ rfl rfl rfl rfl rfl (by kernel_rfl) Try.func8 (by kernel_rfl)
    (of_decide_eq_true (by kernel_rfl)) (by unfold Func.isWrapper; first | (rw [if_pos (by decide +kernel)]; kernel_rfl) | (rw [if_neg (by decide +kernel)]; exact ⟨rfl, rfl⟩))
    (fun os started H enc _ => true_lifted os started H enc)
end Go.Proofs.Ytoeolgeidpjgbaa
