import Derived.Test.YtlbiegjdfijmfaaMb
set_option linter.unusedVariables false
namespace Go.Lg
open Go.RowKit
variable {P : Program}

theorem SR.foreign {w F F' I β ρ} (hs : SR w F I β ρ) (hF : ∀ b, F' b → b < w.heap.size) (hn : ∀ r R l, ρ[r]? = some (some R) → β r = some l → ¬ F' l.b) : SR w F' I β ρ :=
  ⟨fun r R l h1 h2 => by
    obtain ⟨a1, a2, a3, _⟩ := hs.real r R l h1 h2
    exact ⟨a1, a2, a3, hn r R l h1 h2⟩, hs.cells, hs.phantom, hs.inj, hs.ilt, hF, hs.thaw, hs.obs⟩
/-- a new block that is not cells -/
theorem SR.alloc {w F I β ρ} (hs : SR w F I β ρ) (o : Obj) : SR (w.alloc o) (fun b => F b ∨ b = w.heap.size) I β ρ := by
  have g := Grow.alloc_root w o I ρ.length β none
  have hsz := alloc_size w o
  constructor
  · intro r R l h1 h2
    obtain ⟨a1, a2, a3, a4⟩ := hs.real r R l h1 h2
    exact ⟨a1, by omega, a3, fun h => h.elim a4 (fun h => by omega)⟩
  · intro r R l h1 h2 i hi
    obtain ⟨b1, b2⟩ := hs.cells r R l h1 h2 i hi
    refine ⟨b1, fun j hj => ?_⟩
    obtain ⟨v, h3, h4⟩ := b2 j hj
    refine ⟨v, by rw [cellf_old _ _ (hs.real r R l h1 h2).2.1]; exact h3, ?_⟩
    exact h4.mono (fun b k x _ h => by rw [cellf_old w o (cellf_lt h)]; exact h) (fun b k h => by rw [cellf_old w o (cellf_isSome_lt h)]; exact h) (fun _ h => h) (Nat.le_refl _) (fun _ _ => rfl)
  · exact hs.phantom
  · exact hs.inj
  · intro b hb; have := hs.ilt b hb; omega
  · intro b hb
    rcases hb with hb | hb
    · have := hs.flt b hb; omega
    · omega
  · intro r R l h1 h2 k
    rw [frozen_old _ _ (hs.real r R l h1 h2).2.1]; exact hs.thaw r R l h1 h2 k
  · intro r R q h1 h2
    obtain ⟨e, l, x, h3, h4, h5⟩ := hs.obs r R q h1 h2
    exact ⟨e, l, x, h3, by rw [Go.RowKit.Below.heap_alloc w _ l.b (hs.real r R l h1 h3).2.1]; exact h4, h5.mono fun a v h => h.mono (fun b k x _ h => by rw [cellf_old w o (cellf_lt h)]; exact h) (fun b k h => by rw [cellf_old w o (cellf_isSome_lt h)]; exact h) (fun _ h => h) (Nat.le_refl _) (fun _ _ => rfl)⟩
theorem Grow.alloc (w : World) (o : Obj) (I : Nat → Prop) (N : Nat) (β) : Grow w (w.alloc o) I I N N β β :=
  ⟨fun b k x _ h => by rw [cellf_old w o (cellf_lt h)]; exact h, fun b k h => by rw [cellf_old w o (cellf_isSome_lt h)]; exact h, fun _ h => h, Nat.le_refl _, fun _ _ => rfl, fun _ h => .inl h, by rw [alloc_size]; omega⟩
/-- a row that is none: its number stands for a block -/
theorem Grow.noneRow (w : World) (I : Nat → Prop) (N : Nat) (β x) : Grow w w I I N (N + 1) β (bext β N x) :=
  ⟨fun _ _ _ _ h => h, fun _ _ h => h, fun _ h => h, by omega, fun r hr => bext_old hr, fun _ h => .inl h, Nat.le_refl _⟩
theorem SR.noneRow {w F I β ρ} (hs : SR w F I β ρ) (x : Option Loc) : SR w F I (bext β ρ.length x) (ρ ++ [none]) := by
  have hlen : (ρ ++ [(none : Option Root)]).length = ρ.length + 1 := by simp
  have g := Grow.noneRow w I ρ.length β x
  have old : ∀ (r : Nat) (R : Root) l, (ρ ++ [none])[r]? = some (some R) → bext β ρ.length x r = some l → ρ[r]? = some (some R) ∧ β r = some l := by
    intro r R l h1 h2
    rcases getElem?_snoc h1 with ⟨h3, h4⟩ | ⟨_, h4⟩
    · rw [bext_old h3] at h2; exact ⟨h4, h2⟩
    · cases h4
  constructor
  · intro r R l h1 h2
    obtain ⟨h3, h4⟩ := old r R l h1 h2
    exact hs.real r R l h3 h4
  · intro r R l h1 h2 i hi
    obtain ⟨h3, h4⟩ := old r R l h1 h2
    obtain ⟨b1, b2⟩ := hs.cells r R l h3 h4 i hi
    refine ⟨b1, fun j hj => ?_⟩
    obtain ⟨v, h5, h6⟩ := b2 j hj
    exact ⟨v, h5, by rw [hlen]; exact g.rel h6⟩
  · intro r R h1 h2
    rcases getElem?_snoc h1 with ⟨h3, h4⟩ | ⟨_, h4⟩
    · rw [bext_old h3] at h2; exact hs.phantom r R h4 h2
    · cases h4
  · intro r s R S l m h1 h2 h3 h4 he
    obtain ⟨a1, a2⟩ := old r R l h1 h3
    obtain ⟨b1, b2⟩ := old s S m h2 h4
    exact hs.inj r s R S l m a1 b1 a2 b2 he
  · exact hs.ilt
  · exact hs.flt
  · intro r R l h1 h2
    obtain ⟨h3, h4⟩ := old r R l h1 h2
    exact hs.thaw r R l h3 h4
  · intro r R q h1 h2
    rcases getElem?_snoc h1 with ⟨h3, h4⟩ | ⟨_, h4⟩
    · obtain ⟨e, l, y, h5, h6, h7⟩ := hs.obs r R q h4 h2
      exact ⟨e, l, y, by rw [bext_old h3]; exact h5, h6, by rw [hlen]; exact h7.mono fun a v => g.rel⟩
    · cases h4

/-- a loop is entered: its record is laid -/
theorem enter_loop {w F I β ρ} (hs : SR w F I β ρ) (rd : Option Nat) (hrd : ∀ l0, rd = some l0 → ∃ r0, w.heap[l0]? = some (.loop r0)) (fn : FuncId) (tmps : Array Value) (ps : Array Tmp) (assign body : Code) :
    ∃ (l : Nat) (mark : List Deferred) (W : World) (D : Nat), (Instr.enterLoop fn tmps ps assign body rd).run P w = .ok (l, mark) W ∧
      (w.heap.size ≤ l ∧ l < W.heap.size) ∧ Keeps (fun b => b < w.heap.size) w W ∧ (∀ N, Grow w W I I N N β β) ∧ SR W (fun b => F b ∨ w.heap.size ≤ b ∧ b < W.heap.size) I β ρ ∧
      W.heap[l]? = some (.loop { state := .ready, pending := none, fn := fn, tmps := tmps, params := ps, assign := assign, body := body, defers := D }) ∧
      ((mark = [] ) ∨ ∃ M, mark = [dmark M] ∧ w.heap.size ≤ M ∧ M < W.heap.size ∧ M ≠ l ∧ W.heap[M]? = some (.deferred (some []))) := by
  cases rd with
  | none =>
    refine ⟨_, _, _, w.heap.size, run_enterLoop_outer _ _ _ _ _, ?_, ?_, fun N => (Grow.alloc w _ I N β).trans (Grow.alloc _ _ I N β), ?_, ?_, .inr ⟨w.heap.size, rfl, Nat.le_refl _, ?_, by omega, ?_⟩⟩
    · rw [alloc_size, alloc_size]; omega
    · exact (Keeps.alloc w _ (fun b h => h)).trans (Keeps.alloc _ _ (fun b h => by rw [alloc_size]; omega))
    · have h1 := (hs.alloc (.deferred (some []))).alloc (.loop { state := .ready, pending := none, fn := fn, tmps := tmps, params := ps, assign := assign, body := body, defers := w.heap.size })
      refine h1.foreign (fun b hb => ?_) (fun r R l h2 h3 hb => ?_)
      · rcases hb with hb | hb
        · have := hs.flt b hb; rw [alloc_size, alloc_size]; omega
        · exact hb.2
      · obtain ⟨_, a2, _, a4⟩ := hs.real r R l h2 h3
        rcases hb with hb | hb
        · exact a4 hb
        · omega
    · have := World.alloc_heap_new (w.alloc (.deferred (some []))) (.loop { state := .ready, pending := none, fn := fn, tmps := tmps, params := ps, assign := assign, body := body, defers := w.heap.size })
      rwa [World.size_alloc] at this
    · rw [alloc_size, alloc_size]; omega
    · exact (Go.RowKit.Below.heap_alloc _ _ _ (by simp)).trans (World.alloc_heap_new w _)
  | some l0 =>
    obtain ⟨r0, hr0⟩ := hrd l0 rfl
    refine ⟨_, _, _, r0.defers, run_enterLoop_inner hr0 _ _ _ _ _, ?_, ?_, fun N => Grow.alloc w _ I N β, ?_, World.alloc_heap_new _ _, .inl rfl⟩
    · rw [alloc_size]; omega
    · exact Keeps.alloc w _ (fun b h => h)
    · refine (hs.alloc _).foreign (fun b hb => ?_) (fun r R l h2 h3 hb => ?_)
      · rcases hb with hb | hb
        · have := hs.flt b hb; rw [alloc_size]; omega
        · exact hb.2
      · obtain ⟨_, a2, _, a4⟩ := hs.real r R l h2 h3
        rcases hb with hb | hb
        · exact a4 hb
        · omega

section
variable {C : Ctx} {L : List LoopV} {Q : Exit → List LS → List AV → Store → Prop} {st : List LS} {A : List AV} {ρ : Store}

/-- how a loop over a function is left -/
def afterLoop (Q : Exit → List LS → List AV → Store → Prop) (A : List AV) (st' : List LS) (ρ' : Store) : Prop :=
  ∃ st2 s, st' = st2 ++ [s] ∧ (match s with
    | .ready => Q .normal st2 A ρ'
    | .busy => False
    | .done .ret => Q .ret st2 A ρ'
    | .done (.exit id) => Q (.exit id) st2 A ρ'
    | .done _ => False)

/-- A RANGE OVER A FUNCTION -/
theorem wpG_rangeFunc {g : Operand} {ps : Array Tmp} {assign body : Code} {gf : FuncId} {args : List AV} (hg : fnOf (aev A g) [.yld ρ.length] = some (gf, args)) (hcb : callable P gf = true)
    (hrd : ∀ l0, C.rd = some l0 → ∃ e ∈ L, e.l = l0)
    (h : ∀ e : LoopV, e.r = ρ.length → e.ps = ps → e.assign = assign → e.body = body → e.A = A → DoesG P (L ++ [e]) gf args (st ++ [.ready]) (ρ ++ [none]) (fun _ st' ρ' => afterLoop Q A st' ρ')) : wpG P C L (.rangeFunc g ps assign body) Q st A ρ := by
  rintro a w ⟨hL, hLF, I, β, hk, h0, F', ⟨hF, hM, hD⟩, hf⟩ n
  refine wpIn_rangeFunc ?_
  intro fn hfn
  obtain ⟨l, mark, W, D, hrun, ⟨hl1, hl2⟩, hkW, hgW, hsW, hlW, hmark⟩ := enter_loop (P := P) hf.sr C.rd (fun l0 hl0 => by
    obtain ⟨e, he, rfl⟩ := hrd l0 hl0
    obtain ⟨_, _, _, _, _, hh⟩ := hD.at he
    exact ⟨_, hh⟩) fn a.tmps ps assign body
  let e : LoopV := ⟨ρ.length, l, fn, a.tmps, D, ps, assign, body, A⟩
  let β1 := bext β ρ.length (some ⟨l, 0, 0⟩)
  have hlen : (ρ ++ [(none : Option Root)]).length = ρ.length + 1 := by simp
  have hg1 : Grow w W I I ρ.length (ρ ++ [(none : Option Root)]).length β β1 := by rw [hlen]; exact (hgW _).trans (Grow.noneRow _ _ _ _ _)
  have hsr1 : SR W (fun b => F' b ∨ w.heap.size ≤ b ∧ b < W.heap.size) I β1 (ρ ++ [none]) := hsW.noneRow _
  have hLw := hL.grow h0
  have hltL : ∀ e' ∈ L, e'.l < w.heap.size := fun e' he => by
    obtain ⟨_, _, _, _, _, hh⟩ := hD.at he
    exact (Array.getElem?_eq_some_iff.1 hh).1
  have hL1 : LStat W I (ρ ++ [(none : Option Root)]).length β1 (L ++ [e]) := by
    have h1 := hLw.grow hg1
    refine ⟨?_, ?_, ?_, ?_⟩
    · rw [List.map_append, List.nodup_append]
      refine ⟨h1.nd, by simp, fun x hx y hy => ?_⟩
      obtain ⟨e', he', rfl⟩ := List.mem_map.1 hx
      simp at hy
      have := hltL e' he'
      have : y = l := hy
      omega
    · intro e' he'
      rcases List.mem_append.1 he' with he' | he'
      · exact h1.row e' he'
      · simp at he'; subst he'
        exact ⟨by show ρ.length < _; simp, ⟨l, 0, 0⟩, bext_new, rfl⟩
    · intro e' he'
      rcases List.mem_append.1 he' with he' | he'
      · exact h1.size e' he'
      · simp at he'; subst he'; exact hf.size
    · intro e' he' i hi
      rcases List.mem_append.1 he' with he' | he'
      · exact h1.rel e' he' i hi
      · simp at he'; subst he'; exact hg1.rel (hf.rel i hi)
  have hD1 : LDyn (fun b => F' b ∨ w.heap.size ≤ b ∧ b < W.heap.size) W (L ++ [e]) (st ++ [.ready]) := by
    refine ⟨by simp [hD.1], fun k e' s h1 h2 => ?_⟩
    rcases getElem?_snoc h1 with ⟨h3, h4⟩ | ⟨h3, h4⟩
    · rw [List.getElem?_append_left (by rw [hD.1]; exact h3)] at h2
      obtain ⟨h5, h6⟩ := hD.2 k e' s h4 h2
      exact ⟨.inl h5, (hkW.block _ (hltL e' (List.mem_of_getElem? h4))).trans h6⟩
    · subst h3; subst h4
      rw [← hD.1] at h2
      simp at h2; subst h2
      exact ⟨.inr ⟨hl1, hl2⟩, hlW⟩
  have hl : RelL (cellf w) I ρ.length β [] (#[] : Array Value).toList := .mk_nil
  have hy : RelL (cellf W) I (ρ ++ [(none : Option Root)]).length β1 [.yld ρ.length] (#[.func (.yield l) #[] #[]] : Array Value).toList := .mk (.yld ρ.length ⟨l, 0, 0⟩ (by simp) bext_new) .mk_nil
  have hfW : FRel W (fun b => F' b ∨ w.heap.size ≤ b ∧ b < W.heap.size) I β1 { a with defers := [] } A (ρ ++ [none]) := ⟨hsr1, ⟨[], List.nodup_nil, rfl, by simp⟩, hf.size, fun i hi => hg1.rel (hf.rel i hi)⟩
  obtain ⟨us, vs, hvf, hrel⟩ := fnOf_vals hfW hg hy
  have hvf' : a.eval g = .func (.func gf) us vs := hvf
  refine ⟨l, mark, W, { target := .fn (.func gf) vs, args := us ++ #[.func (.yield l) #[] #[]] }, W, gf, us ++ #[.func (.yield l) #[] #[]] ++ vs, W, hrun, ?_, fun _ _ => trivial, ?_, fun h => by simp [fz, Fence.wide] at h, ?_⟩
  · unfold resolve; simp [hvf', Deferred.ofValue]; rfl
  · simp [invoke, run_callFunc hcb]
  refine (callsIn_wide (n := n - 1)).2 ((h e rfl rfl rfl rfl rfl W _ I β1 _ hsr1 hL1 hD1 hrel).mono ?_)
  rintro x w3 ⟨u, v, st', ρ', I', β', rfl, ⟨st2, s, rfl, hq⟩, hk3, hg3, hsr3, hD3, _⟩
  have hst2 : st2.length = L.length := by have := hD3.1; simpa using this
  have hl3 : w3.heap[l]? = some (.loop (e.mk2 s)) := by
    have := (hD3.2 L.length e s (by simp) (by rw [← hst2]; simp)).2
    exact this
  -- the activation, after the loop
  have fin : ∀ (w4 : World), w4 = w3.putObj l (.loop { e.mk2 s with state := .exhausted }) → SRelG C L st2 { a with defers := mark ++ a.defers } w4 A ρ' := by
    rintro w4 rfl
    have hne : ∀ b, b ≠ l → (w3.putObj l (.loop { e.mk2 s with state := .exhausted })).heap[b]? = w3.heap[b]? := fun b hb => World.putObj_heap_other hb
    have hold : ∀ b, F' b → ¬ blk L b → (w3.putObj l (.loop { e.mk2 s with state := .exhausted })).heap[b]? = w.heap[b]? := fun b hb hnb => by
      have hlt := hf.sr.flt b hb
      rw [hne b (by omega), hk3.block b ⟨.inl hb, ?_⟩]
      · exact hkW.block b hlt
      · rintro ⟨e', he', hb'⟩
        rcases List.mem_append.1 he' with he' | he'
        · exact hnb ⟨e', he', hb'⟩
        · simp at he'; subst he'
          have : l = b := hb'
          omega
    have hg4 := (hg1.trans hg3).trans (Grow.putObj (o' := .loop { e.mk2 s with state := .exhausted }) hl3 rfl rfl I' ρ'.length β')
    have hblkF : ∀ b, C.F b → ¬ blk L b := fun b hb ⟨e', he', hb'⟩ => hLF e' he' (hb' ▸ hb)
    have hmk : ∀ M, w.heap.size ≤ M → M < W.heap.size → M ≠ l → W.heap[M]? = some (.deferred (some [])) → (w3.putObj l (.loop { e.mk2 s with state := .exhausted })).heap[M]? = some (.deferred (some [])) := fun M m1 m2 m3 m4 => by
      rw [hne M m3, hk3.block M ⟨.inr ⟨m1, m2⟩, ?_⟩, m4]
      rintro ⟨e', he', hb'⟩
      rcases List.mem_append.1 he' with he' | he'
      · have := hltL e' he'; omega
      · simp at he'; subst he'; exact m3 hb'.symm
    refine ⟨hL, hLF, I', β', ⟨?_, ?_, ?_, ?_, fun b hb => (hold b (hF b hb) (hblkF b hb)).trans (hk.block b hb)⟩, h0.trans hg4, fun b => F' b ∨ w.heap.size ≤ b ∧ b < W.heap.size, ⟨fun b hb => .inl (hF b hb), ?_, ?_⟩, ⟨hsr3.putObj hl3 rfl rfl (.inr ⟨by omega, by omega⟩), ?_, hf.size, fun i hi => hg4.rel (hf.rel i hi)⟩⟩
    · exact (show (w3.putObj l _).os = w3.os from rfl).trans (hk3.os.trans (hkW.os.trans hk.os))
    · exact (show (w3.putObj l _).tape = w3.tape from rfl).trans (hk3.tape.trans (hkW.tape.trans hk.tape))
    · exact (show (w3.putObj l _).output = w3.output from rfl).trans (hk3.output.trans (hkW.output.trans hk.output))
    · rw [World.putObj_size]; exact Nat.le_trans hk.size (Nat.le_trans hkW.size hk3.size)
    · intro M hm
      rcases List.mem_append.1 hm with hm | hm
      · rcases hmark with rfl | ⟨M', rfl, m1, _⟩
        · simp at hm
        · simp [dmark] at hm; subst hm; exact C.up M (Nat.le_trans hk.size m1)
      · exact hM M hm
    · refine ⟨hst2, fun k e' s' h1 h2 => ?_⟩
      have hk' : k < L.length := (List.getElem?_eq_some_iff.1 h1).1
      obtain ⟨h3, h4⟩ := hD3.2 k e' s' (by rw [List.getElem?_append_left hk']; exact h1) (by rw [List.getElem?_append_left (by omega)]; exact h2)
      refine ⟨h3, (hne _ ?_).trans h4⟩
      have := hltL e' (List.mem_of_getElem? h1); omega
    · obtain ⟨Ds, d1, d2, d3⟩ := hf.df
      have dlt : ∀ M ∈ Ds, M < w.heap.size := fun M hm => hf.sr.flt M (d3 M hm).1
      have dold : ∀ M ∈ Ds, (F' M ∨ w.heap.size ≤ M ∧ M < W.heap.size) ∧ ¬ I' M ∧ (w3.putObj l (.loop { e.mk2 s with state := .exhausted })).heap[M]? = some (.deferred (some [])) := fun M hm => by
        obtain ⟨a1, a2, a3⟩ := d3 M hm
        refine ⟨.inl a1, fun hi => ((hg1.trans hg3).hI2 M hi).elim a2 (fun h => Nat.lt_irrefl _ (Nat.lt_of_lt_of_le (dlt M hm) h)), (hold M a1 ?_).trans a3⟩
        rintro ⟨e', he', rfl⟩
        obtain ⟨_, _, _, _, _, hh⟩ := hD.at he'
        rw [a3] at hh; cases hh
      rcases hmark with rfl | ⟨M, rfl, m1, m2, m3, m4⟩
      · exact ⟨Ds, d1, d2, dold⟩
      · refine ⟨M :: Ds, ?_, by simp [d2], fun M' hm => ?_⟩
        · rw [List.nodup_cons]; exact ⟨fun h => by have := dlt M h; omega, d1⟩
        · rcases List.mem_cons.1 hm with rfl | hm
          · refine ⟨.inr ⟨m1, m2⟩, fun hi => ?_, hmk _ m1 m2 m3 m4⟩
            rcases hg3.hI2 _ hi with h | h
            · have := hf.sr.ilt _ h; omega
            · omega
          · exact dold M' hm
  have hend : ∀ (hb : (e.mk2 s).state ≠ .busy), (Instr.endLoop l).run P w3 = .ok (e.mk2 s).pending (w3.putObj l (.loop { e.mk2 s with state := .exhausted })) := fun hb => run_endLoop hl3 hb
  cases s with
  | ready => exact ⟨none, _, hend (by simp [LoopV.mk2]), st2, A, ρ', fin _ rfl, hq⟩
  | busy => exact hq.elim
  | done c =>
    refine ⟨some c, _, hend (by simp [LoopV.mk2]), ?_⟩
    cases c <;> first | exact hq.elim | exact wpIn_ret ⟨st2, A, ρ', fin _ rfl, hq⟩ | exact wpIn_exit ⟨st2, A, ρ', fin _ rfl, hq⟩
end
end Go.Lg
