import Derived.Test.YtlbiegjdfijmfaaMa
set_option linter.unusedVariables false
namespace Go.Lg
open Go.RowKit
variable {P : Program}

/-! the record of a loop turns -/
theorem SR.putObj {w F I β ρ} (hs : SR w F I β ρ) {l : Nat} {o o' : Obj} (h : w.heap[l]? = some o) (ho : o.isCells = false) (ho' : o'.isCells = false) (hF : F l) : SR (w.putObj l o') F I β ρ := by
  have hc := cellf_putObj h ho ho'
  have hz := frozen_putObj h ho ho'
  constructor
  · intro r R l h1 h2; rw [World.putObj_size]; exact hs.real r R l h1 h2
  · intro r R l h1 h2; rw [hc]; exact hs.cells r R l h1 h2
  · exact hs.phantom
  · exact hs.inj
  · intro b hb; rw [World.putObj_size]; exact hs.ilt b hb
  · intro b hb; rw [World.putObj_size]; exact hs.flt b hb
  · intro r R l h1 h2 k; rw [hz]; exact hs.thaw r R l h1 h2 k
  · intro r R q h1 h2
    obtain ⟨e, m, x, h3, h4, h5⟩ := hs.obs r R q h1 h2
    exact ⟨e, m, x, h3, by rw [World.putObj_heap_other (show m.b ≠ l from fun e => (hs.real r R m h1 h3).2.2.2 (e ▸ hF))]; exact h4, by rw [hc]; exact h5⟩

theorem LStat.inj {g I N β L} (h : LStat g I N β L) {j k : Nat} {e f : LoopV} (h1 : L[j]? = some e) (h2 : L[k]? = some f) (hl : e.l = f.l) : j = k := by
  have hj := (List.getElem?_eq_some_iff.1 h1)
  have hk := (List.getElem?_eq_some_iff.1 h2)
  obtain ⟨hj1, hj2⟩ := hj
  obtain ⟨hk1, hk2⟩ := hk
  have hnd := List.pairwise_iff_getElem.1 h.nd
  rcases Nat.lt_trichotomy j k with hlt | heq | hlt
  · have := hnd j k (by simpa using hj1) (by simpa using hk1) hlt
    simp [hj2, hk2, hl] at this
  · exact heq
  · have := hnd k j (by simpa using hk1) (by simpa using hj1) hlt
    simp [hj2, hk2, hl] at this

section
variable {C : Ctx} {L : List LoopV} {st : List LS} {A : List AV} {ρ : Store}

theorem SRelG.setLoop {a w} (hs : SRelG C L st a w A ρ) {k : Nat} {e : LoopV} {s : LS} (hk : L[k]? = some e) (hst : st[k]? = some s) (s' : LS) :
    SRelG C L (st.set k s') a (w.putObj e.l (.loop (e.mk2 s'))) A ρ := by
  obtain ⟨hL, hLF, I, β, hkp, h0, F', ⟨hF, hM, hD⟩, hf⟩ := hs
  obtain ⟨hFl, hh⟩ := hD.2 k e s hk hst
  have hlt : e.l < w.heap.size := (Array.getElem?_eq_some_iff.1 hh).1
  have hne : ∀ b, b ≠ e.l → (w.putObj e.l (.loop (e.mk2 s'))).heap[b]? = w.heap[b]? := fun b hb => World.putObj_heap_other hb
  refine ⟨hL, hLF, I, β, ⟨hkp.os, hkp.tape, hkp.output, by rw [World.putObj_size]; exact hkp.size, fun b hb => (hne b (fun h => hLF e (List.mem_of_getElem? hk) (h ▸ hb))).trans (hkp.block b hb)⟩,
    h0.trans (Grow.putObj hh rfl rfl _ _ _), F', ⟨hF, hM, ⟨by simpa using hD.1, fun j f t h1 h2 => ?_⟩⟩, ⟨hf.sr.putObj hh rfl rfl hFl, ?_, hf.size, fun i hi => ?_⟩⟩
  · by_cases e1 : j = k
    · subst e1
      rw [hk] at h1; cases h1
      have hlen : j < st.length := (List.getElem?_eq_some_iff.1 hst).1
      rw [List.getElem?_set_self hlen] at h2
      cases h2
      exact ⟨hFl, World.putObj_heap_same hlt⟩
    · rw [List.getElem?_set_ne (fun h => e1 h.symm)] at h2
      obtain ⟨h3, h4⟩ := hD.2 j f t h1 h2
      exact ⟨h3, (hne _ (fun h => e1 (hL.inj h1 hk h))).trans h4⟩
  · obtain ⟨Ds, h1, h2, h3⟩ := hf.df
    exact ⟨Ds, h1, h2, fun D hd => ⟨(h3 D hd).1, (h3 D hd).2.1, (hne D (fun h => by
      have := (h3 D hd).2.2
      rw [h, hh] at this; cases this)).trans (h3 D hd).2.2⟩⟩
  · rw [cellf_putObj hh rfl rfl]; exact hf.rel i hi

/-- a round's frame -/
def setPs (A : List AV) (ps : Array Tmp) (xs : List AV) : List AV := (ps.toList.zip xs).foldl (fun t p => t.set p.1 p.2) A

theorem setPs_rel {c : Nat → Nat → Option Value} {I : Nat → Prop} {N : Nat} {β : Nat → Option Loc} : ∀ (ps : List Tmp) (xs : List AV) (ys : List Value) (A : List AV) (t : Array Value), RelL c I N β xs ys → t.size = A.length →
    (∀ i, i < A.length → Rel c I N β (A.getD i .any) (t.getD i undef)) →
    ((ps.zip ys).foldl (fun t (p : Tmp × Value) => t.setIfInBounds p.1 p.2) t).size = ((ps.zip xs).foldl (fun t p => t.set p.1 p.2) A).length ∧
    ∀ i, i < ((ps.zip xs).foldl (fun t p => t.set p.1 p.2) A).length → Rel c I N β (((ps.zip xs).foldl (fun t p => t.set p.1 p.2) A).getD i .any) (((ps.zip ys).foldl (fun t (p : Tmp × Value) => t.setIfInBounds p.1 p.2) t).getD i undef)
  | [], xs, ys, A, t, _, hs, h => ⟨hs, h⟩
  | p :: ps, [], ys, A, t, hr, hs, h => by rw [hr.nil]; exact ⟨hs, h⟩
  | p :: ps, x :: xs, ys, A, t, hr, hs, h => by
    obtain ⟨y, ys', rfl, hxy, hr'⟩ := hr.cons
    refine setPs_rel ps xs ys' (A.set p x) (t.setIfInBounds p y) hr' (by simpa using hs) (fun i hi => ?_)
    simp at hi
    by_cases e : p = i
    · subst e
      have e1 : (A.set p x).getD p .any = x := by simp [List.getD, hi]
      have e2 : (t.setIfInBounds p y).getD p undef = y := by simp [Array.getD, hs, hi]
      rw [e1, e2]; exact hxy
    · have e1 : (A.set p x).getD i .any = A.getD i .any := by simp [List.getD, List.getElem?_set_ne e]
      have e2 : (t.setIfInBounds p y).getD i undef = t.getD i undef := by
        by_cases hs' : i < t.size <;> simp [Array.getD, hs', Array.getElem_setIfInBounds_ne, e]
      rw [e1, e2]; exact h i hi

/-- how a round ends -/
def roundNext : Exit → Option (Bool × LS)
  | .normal => some (true, .ready)
  | .ret => some (false, .done .ret)
  | .exit id => some (false, .done (.exit id))
  | _ => none

/-- A CALL OF yield, of the k-th loop -/
def YieldG (P : Program) (L : List LoopV) (k : Nat) (e : LoopV) (xs : List AV) (st : List LS) (ρ : Store) (R : Bool → List LS → Store → Prop) : Prop :=
  st[k]? = some .ready ∧ xs.length = e.ps.size ∧ ∀ Cb : Ctx, Cb.rd = some e.l → Cb.n0 = ρ.length →
    wpG P Cb L e.assign (thenG (fun st1 A1 ρ1 => st1[k]? = some .ready ∧ wpG P Cb L e.body (fun x st2 A2 ρ2 => st2[k]? = some .busy ∧ ∃ b s, roundNext x = some (b, s) ∧ R b (st2.set k s) ρ2) (st1.set k .busy) A1 ρ1) (fun _ _ _ _ => False)) st (setPs e.A e.ps xs) ρ

theorem yield_srelG {o : Oper} {c : Call} {f : Operand} {k : Nat} {e : LoopV} {R : Bool → List LS → Store → Prop} {a w} (hs : SRelG C L st a w A ρ) (ho : o.op = .call c) (hc : c.callee = .value f)
    (hk : L[k]? = some e) (hf : aev A f = .yld e.r) (hy : YieldG P L k e (c.args.toList.map (aev A)) st ρ R) {K : Act → World → Prop} {Q : Exit → Act → World → Prop}
    (hK : ∀ b st' ρ' a' w', R b st' ρ' → SRelG C L st' a' w' (putA A o.dst (.sc (.bool b))) ρ' → K a' w') (n : Nat) : o.wpIn (fz C.rd) n P a w K Q := by
  obtain ⟨hL, hLF, I, β, hkp, h0, F', ⟨hF, hM, hD⟩, hfr⟩ := hs
  obtain ⟨hst, hlen, hw⟩ := hy
  obtain ⟨hFl, hh⟩ := hD.2 k e _ hk hst
  have hvf : a.eval f = .func (.yield e.l) #[] #[] := by
    have h1 := hfr.eval f
    rw [hf] at h1
    obtain ⟨h2, loc, h3, h4⟩ := hL.row e (List.mem_of_getElem? hk)
    generalize a.eval f = v at h1
    generalize hx : AV.yld e.r = x at h1
    cases h1 <;> cases hx
    rename_i l _ hl
    rw [h0.hβ _ h2, h3] at hl
    cases hl
    rw [h4]
  have hrl := RelL.of_map A a.eval hfr.eval c.args.toList
  have hargs : (c.args.toList.map a.eval) = (c.args.map a.eval).toList := by simp
  rw [hargs] at hrl
  have hrun := run_yield (P := P) (args := c.args.map a.eval) hh (by simpa [LoopV.mk2] using hlen)
  have hex : (execOp a.eval o).run P w = .ok (.round e.l e.fn ((e.ps.zip (c.args.map a.eval)).foldl (fun tmps (t, a) => tmps.setIfInBounds t a) e.tmps) e.assign e.body) w := by
    have e0 : (resolve a.eval c o.type).run P w = .ok { target := .fn (.yield e.l) #[], args := c.args.map a.eval } w := by
      unfold resolve; rw [hc]; simp [hvf, Deferred.ofValue]
    unfold execOp
    simp [ho, e0, invoke]
    rw [hrun]
    simp [LoopV.mk2]
  refine ⟨fun _ _ => trivial, ?_⟩
  rw [Oper.semAt_eq _ _ _ (not_defer_of hex (fun d h => nomatch h)), hex, Oper.uponIn_round]
  refine ⟨fun h => by simp [fz, Fence.wide] at h, ?_⟩
  let Cb : Ctx := ⟨fun b => F' b ∧ ¬ blk L b, I, w, w, some e.l, fun D => w.heap.size ≤ D, fun _ h => h, ρ.length, β⟩
  have hLw : LStat w I ρ.length β L := hL.grow h0
  have hsb : SRelG Cb L st { tmps := (e.ps.zip (c.args.map a.eval)).foldl (fun tmps (t, a) => tmps.setIfInBounds t a) e.tmps, defers := [] } w (setPs e.A e.ps (c.args.toList.map (aev A))) ρ := by
    have hp := setPs_rel e.ps.toList _ _ e.A e.tmps hrl (hLw.size e (List.mem_of_getElem? hk)) (hLw.rel e (List.mem_of_getElem? hk))
    have hfold : (e.ps.zip (c.args.map a.eval)).foldl (fun tmps (t, a) => tmps.setIfInBounds t a) e.tmps = (e.ps.toList.zip (c.args.map a.eval).toList).foldl (fun t (p : Tmp × Value) => t.setIfInBounds p.1 p.2) e.tmps := by
      rw [← Array.foldl_toList, Array.toList_zip]
    refine ⟨hLw, fun e' he hb => hb.2 ⟨e', he, rfl⟩, I, β, Keeps.refl _ _, Grow.refl _ _ _ _, F', ⟨fun b hb => hb.1, fun D hd => (by cases hd), hD⟩, ⟨hfr.sr, ⟨[], List.nodup_nil, rfl, by simp⟩, ?_, fun i hi => ?_⟩⟩
    · rw [hfold]; exact hp.1
    · rw [hfold]; exact hp.2 i hi
  have hround : RoundIn (fz C.rd) (n - 1) P e.l e.fn ((e.ps.zip (c.args.map a.eval)).foldl (fun tmps (t, a) => tmps.setIfInBounds t a) e.tmps) e.assign e.body w
      (fun x w' => ∃ b st' ρ', x = .returned (.bool b) ∧ R b st' ρ' ∧ ∃ a2 A2, SRelG Cb L st' a2 w' A2 ρ') := by
    refine roundIn_of_wpIn trivial ?_
    have h1 := hw Cb rfl rfl _ w hsb (n - 1)
    refine wpIn_mono h1 ?_
    rintro x a1 w1 ⟨st1, A1, ρ1, hs1, hq1⟩
    cases x with
    | normal =>
      obtain ⟨hst1, hq1⟩ := hq1
      have hh1 : w1.heap[e.l]? = some (.loop (e.mk2 .ready)) := by
        obtain ⟨_, _, _, _, _, _, _, ⟨_, _, hD1⟩, _⟩ := hs1
        exact (hD1.2 k e _ hk hst1).2
      refine ⟨_, run_beginRound hh1 rfl, ?_⟩
      refine wpIn_mono (hq1 a1 _ (hs1.setLoop hk hst1 .busy) (n - 1)) ?_
      rintro x a2 w2 ⟨st2, A2, ρ2, hs2, hst2, b, s, hx, hR⟩
      have hh2 : w2.heap[e.l]? = some (.loop (e.mk2 .busy)) := by
        obtain ⟨_, _, _, _, _, _, _, ⟨_, _, hD1⟩, _⟩ := hs2
        exact (hD1.2 k e _ hk hst2).2
      cases x <;> simp only [roundNext, Option.some.injEq, Prod.mk.injEq, reduceCtorEq] at hx
      · obtain ⟨rfl, rfl⟩ := hx
        exact ⟨_, _, run_endRound none hh2, _, _, _, rfl, hR, a2, A2, hs2.setLoop hk hst2 .ready⟩
      · obtain ⟨rfl, rfl⟩ := hx
        exact ⟨_, _, run_endRound (some _) hh2, _, _, _, rfl, hR, a2, A2, hs2.setLoop hk hst2 (.done _)⟩
      · obtain ⟨rfl, rfl⟩ := hx
        exact ⟨_, _, run_endRound (some .ret) hh2, _, _, _, rfl, hR, a2, A2, hs2.setLoop hk hst2 (.done .ret)⟩
    | _ => exact hq1.elim
  refine hround.mono ?_
  rintro x w' ⟨b, st', ρ', rfl, hR, a2, A2, hs2⟩
  refine hK b st' ρ' _ w' hR ?_
  obtain ⟨_, _, I2, β2, hk2, hg2, F2, ⟨hF2, _, hD2⟩, hf2⟩ := hs2
  have hsub : ∀ b, F' b → F2 b := fun b hb => by
    by_cases hbl : blk L b
    · obtain ⟨e', he', rfl⟩ := hbl
      obtain ⟨_, _, _, _, h1, _⟩ := hD2.at he'
      exact h1
    · exact hF2 b ⟨hb, hbl⟩
  exact ⟨hL, hLF, I2, β2, hkp.trans (hk2.sub fun b hb => ⟨hF b hb, fun ⟨e', he', hb'⟩ => hLF e' he' (hb' ▸ hb)⟩), h0.trans hg2, F2, ⟨fun b hb => hsub b (hF b hb), fun D hd => hM D (by revert hd; cases o.dst <;> exact id), hD2⟩,
    hfr.putM o.dst hg2 hf2.sr (hfr.df.loops hD hk2 hg2 hsub) (.sc _)⟩
end
end Go.Lg
