import Derived.Test.YtpdcajchppoocaaLh
set_option linter.unusedVariables false
set_option linter.unusedSimpArgs false
namespace Go.Lg
variable {P : Program}

def Step (P : Program) (o : Oper) (a : Act) (w : World) (F I : Nat → Prop) (β : Nat → Option Loc) (ρ : Store) (v : AV) (ρ' : Store) : Prop :=
  ∃ u w' I' β', ((execOp a.eval o).run P w = .ok (.value u) w' ∨ ((execOp a.eval o).run P w = .ok .skip w' ∧ u = undef)) ∧
    Keeps F w w' ∧ Grow w w' I I' ρ.length ρ'.length β β' ∧ SR w' F I' β' ρ' ∧ Rel (cellf w') I' ρ'.length β' v u

def aBox (P : Program) (t : TypeId) (x : AV) (ρ : Store) (v : AV) (ρ' : Store) : Prop :=
  x.ok = true ∧ x.cells.length = P.cellsOf t ∧ v = .ptr ρ.length 0 0 ∧ ρ' = ρ ++ [some ⟨P.cellsOf t, [x], none⟩]

theorem RelL.get {c I N β l vs} (h : RelL c I N β l vs) {j : Nat} (hj : j < l.length) : ∃ v, vs[j]? = some v ∧ Rel c I N β (l.getD j .any) v := by
  have hj' : j < vs.length := by have := h.1; omega
  exact ⟨vs[j], by simp [hj'], by have := h.2 j hj; simpa [List.getD, hj'] using this⟩

theorem newVar_step {w F I β ρ} {t : TypeId} {x : AV} {vx : Value} (hs : SR w F I β ρ) (hx : Rel (cellf w) I ρ.length β x vx) (ho : x.ok = true) (hz : x.cells.length = P.cellsOf t) :
    ∃ w' β', (newVar t vx).run P w = .ok ⟨w.heap.size, 0, none⟩ w' ∧ Keeps F w w' ∧ Grow w w' I I ρ.length (ρ ++ [some (⟨P.cellsOf t, [x], none⟩ : Root)]).length β β' ∧
      SR w' F I β' (ρ ++ [some ⟨P.cellsOf t, [x], none⟩]) ∧ Rel (cellf w') I (ρ ++ [some (⟨P.cellsOf t, [x], none⟩ : Root)]).length β' (.ptr ρ.length 0 0) (.pointer (some ⟨w.heap.size, 0, none⟩)) := by
  have hc := (ok_cells hx ho).1
  refine ⟨w.alloc (.cells vx.cells t), bext β ρ.length (some ⟨w.heap.size, 0, P.cellsOf t⟩), by simp only [newVar, newRow, Sem.run_bind, run_newObj, Result.andThen_ok, Sem.run_pure]; rfl, Keeps.alloc w _ hs.flt, ?_, ?_, ?_⟩
  · simpa using Grow.alloc_root w (.cells vx.cells t) I ρ.length β _
  · refine hs.newRoot vx.cells t _ _ (fun i hi => ?_)
    have : i = 0 := by simpa using hi
    subst this
    refine ⟨by simpa using hz, fun j hj => ?_⟩
    obtain ⟨v, h1, h2⟩ := hc.get (j := j) (by omega)
    exact ⟨v, by simpa using h1, by simpa using h2⟩
  · have := Rel.ptr (c := cellf (w.alloc (.cells vx.cells t))) (I := I) (N := ρ.length + 1) (β := bext β ρ.length (some ⟨w.heap.size, 0, P.cellsOf t⟩)) ρ.length 0 0 ⟨w.heap.size, 0, P.cellsOf t⟩ (by omega) bext_new
    simpa using this

theorem aBox_step {o : Oper} {t : TypeId} {x : Operand} {w F I β a A ρ v ρ'} (ho : o.op = .box t x) (hs : FRel w F I β a A ρ) (h : aBox P t (aev A x) ρ v ρ') : Step P o a w F I β ρ v ρ' := by
  obtain ⟨h1, h2, rfl, rfl⟩ := h
  obtain ⟨w', β', hr, hk, hg, hsr, hrel⟩ := newVar_step (P := P) (t := t) hs.sr (hs.eval x) h1 h2
  exact ⟨_, w', I, β', .inl (by unfold execOp; simp [ho, Instr.box, hr]), hk, hg, hsr, hrel⟩

def aAlloc (P : Program) (t : TypeId) (ρ : Store) (v : AV) (ρ' : Store) : Prop := ∃ z, zeroA P t = some z ∧ aBox P t z ρ v ρ'

theorem aAlloc_step {o : Oper} {t : TypeId} {w F I β a A ρ v ρ'} (ho : o.op = .alloc t) (hs : FRel w F I β a A ρ) (h : aAlloc P t ρ v ρ') : Step P o a w F I β ρ v ρ' := by
  obtain ⟨z, hz, h1, h2, rfl, rfl⟩ := h
  obtain ⟨zv, hzv, rfl⟩ := run_zero hz w
  obtain ⟨w', β', hr, hk, hg, hsr, hrel⟩ := newVar_step (P := P) (t := t) hs.sr (ofV_rel _ _ _ _ zv) h1 h2
  exact ⟨_, w', I, β', .inl (by unfold execOp; simp [ho, Instr.alloc, hzv, hr]), hk, hg, hsr, hrel⟩

def putEl (e : AV) (j : Nat) (x : AV) : AV := match e with
  | .agg cs => .agg (cs.take j ++ x.cells ++ cs.drop (j + x.cells.length))
  | _ => x

def aStore (P : Program) (t : TypeId) (p x : AV) (ρ : Store) (v : AV) (ρ' : Store) : Prop :=
  match p with
  | .ptr r i j => ∃ R, ρ[r]? = some (some R) ∧ i < R.els.length ∧ known P t = true ∧ x.ok = true ∧ x.cells.length = P.cellsOf t ∧ x.cells.length ≠ 0 ∧ j + x.cells.length ≤ R.sz ∧
      v = .any ∧ ρ' = ρ.set r (some ⟨R.sz, R.els.set i (putEl (R.els.getD i .any) j x), R.ob⟩)
  | _ => False

theorem putEl_cells {e : AV} {j : Nat} {x : AV} (h : j + x.cells.length ≤ e.cells.length) (hx : x.cells.length ≠ 0) :
    (putEl e j x).cells = e.cells.take j ++ x.cells ++ e.cells.drop (j + x.cells.length) := by
  cases e with
  | agg cs => rfl
  | _ =>
    have h' : j + x.cells.length ≤ 1 := h
    have h1 : j = 0 := by omega
    have h2 : x.cells.length = 1 := by omega
    subst h1
    show x.cells = List.take 0 _ ++ x.cells ++ List.drop (0 + x.cells.length) [_]
    rw [h2]; simp

theorem setCells_size (b : Nat) : ∀ (vs : List Value) (o : Nat) (w : World), (w.setCells b o vs).heap.size = w.heap.size
  | [], _, _ => rfl
  | v :: r, o, w => by rw [World.setCells, setCells_size b r]; simp [World.setCell]
theorem setCells_block (b : Nat) : ∀ (vs : List Value) (o : Nat) (w : World) (k : Nat), k ≠ b → (w.setCells b o vs).heap[k]? = w.heap[k]?
  | [], _, _, _, _ => rfl
  | v :: r, o, w, k, h => by
    rw [World.setCells, setCells_block b r _ _ k h]; exact Go.RowKit.Below.heap_setCell w ⟨b, o, none⟩ v k h
theorem setCells_rest (b : Nat) : ∀ (vs : List Value) (o : Nat) (w : World), (w.setCells b o vs).os = w.os ∧ (w.setCells b o vs).tape = w.tape ∧ (w.setCells b o vs).output = w.output
  | [], _, _ => ⟨rfl, rfl, rfl⟩
  | v :: r, o, w => by rw [World.setCells]; exact setCells_rest b r (o + 1) _
theorem Keeps.setCells {F : Nat → Prop} (w : World) (b o : Nat) (vs : List Value) (hF : ¬ F b) : Keeps F w (w.setCells b o vs) :=
  let ⟨h1, h2, h3⟩ := setCells_rest b vs o w
  ⟨h1, h2, h3, by rw [setCells_size]; omega, fun k hk => setCells_block b vs o w k (fun e => hF (e ▸ hk))⟩

theorem cellf_setCells {w : World} {b o : Nat} {vs : List Value} (hc : ∀ j, j < vs.length → (cellf w b (o + j)).isSome = true) (b' k : Nat) :
    cellf (w.setCells b o vs) b' k = if h : b' = b ∧ o ≤ k ∧ k < o + vs.length then some (vs[k - o]'(by omega)) else cellf w b' k := by
  split
  · rename_i h
    obtain ⟨rfl, h1, h2⟩ := h
    have := World.cell?_setCells_in b' vs o w hc (k - o) (by omega)
    rw [show o + (k - o) = k by omega] at this
    exact this
  · rename_i h
    refine World.cell?_setCells_out b vs o w ⟨b', k, none⟩ (fun h1 _ => ?_)
    simp at h1 ⊢
    subst h1
    by_cases h2 : k < o
    · exact .inl h2
    · exact .inr (by omega)

theorem Grow.setCells {w : World} {I : Nat → Prop} {N β} {b o : Nat} {vs : List Value} (hc : ∀ j, j < vs.length → (cellf w b (o + j)).isSome = true) (hb : ¬ I b) :
    Grow w (w.setCells b o vs) I I N N β β :=
  ⟨fun b' k x hI h => by rw [cellf_setCells hc, dif_neg (fun (h' : b' = b ∧ o ≤ k ∧ k < o + vs.length) => hb (h'.1 ▸ hI))]; exact h,
   fun b' k h => by rw [cellf_setCells hc]; split; rfl; exact h, fun _ h => h, Nat.le_refl _, fun _ _ => rfl, fun _ h => .inl h, by rw [setCells_size]; omega⟩

theorem aStore_step {o : Oper} {t : TypeId} {p x : Operand} {w F I β a A ρ v ρ'} (ho : o.op = .store t p x) (hs : FRel w F I β a A ρ) (h : aStore P t (aev A p) (aev A x) ρ v ρ') : Step P o a w F I β ρ v ρ' := by
  have hp := hs.eval p
  have hx := hs.eval x
  unfold aStore at h
  split at h
  · rename_i r i j he
    rw [he] at hp
    obtain ⟨R, hR, hi, hk, hok, hz, hne, hj, rfl, rfl⟩ := h
    generalize hvp : a.eval p = vp at hp
    cases hp with
    | ptr _ _ _ l hr hl =>
      obtain ⟨lb, lo, lsz⟩ := l
      have esz : lsz = R.sz := (hs.sr.real r R _ hR hl).1
      subst esz
      generalize hX : aev A x = X at *
      generalize hl0 : (⟨lb, lo, R.sz⟩ : Loc) = l at *
      obtain ⟨hxc, hx1⟩ := ok_cells hx hok
      obtain ⟨esz, hlt, hnI, hnF⟩ := hs.sr.real r R l hR hl
      obtain ⟨hcz, hcc⟩ := hs.sr.cells r R l hR hl i hi
      generalize hE : R.els.getD i .any = E at *
      have hlen : (a.eval x).cells.toList.length = X.cells.length := hxc.1
      have hcell : ∀ k, k < (a.eval x).cells.toList.length → (cellf w l.b (l.off + i * l.sz + j + k)).isSome = true := by
        intro k hk'
        obtain ⟨u, hu, _⟩ := hcc (j + k) (by omega)
        rw [esz, Nat.add_assoc, hu]; rfl
      have hrun := run_storeCells_cells (P := P) l.b (l.off + i * l.sz + j) (a.eval x).cells.toList 0 w (by simpa [cellf] using hcell)
        (fun k _ => hs.sr.thaw r R l hR hl _) hx1
      have hg : Grow w (w.setCells l.b (l.off + i * l.sz + j) (a.eval x).cells.toList) I I ρ.length ρ.length β β := Grow.setCells hcell hnI
      refine ⟨undef, w.setCells l.b (l.off + i * l.sz + j) (a.eval x).cells.toList, I, β, .inr ⟨?_, rfl⟩, Keeps.setCells _ _ _ _ hnF, ?_, ?_, .any _⟩
      · unfold execOp
        have hsz : (a.eval x).cells.size = P.cellsOf t := by simpa [hz] using hlen
        simp only [Nat.add_zero] at hrun
        simp [ho, Instr.storeAt, hvp, Instr.sureAddr, storeVar, run_sizeOf' hk, hsz, hrun]
      · simpa using hg
      · have hrl : r < ρ.length := (List.getElem?_eq_some_iff.1 hR).1
        have newget : ∀ (s : Nat) (S : Root), (ρ.set r (some ⟨R.sz, R.els.set i (putEl E j X), R.ob⟩))[s]? = some (some S) →
            (s = r ∧ S = ⟨R.sz, R.els.set i (putEl E j X), R.ob⟩) ∨ (s ≠ r ∧ ρ[s]? = some (some S)) := by
          intro s S h
          by_cases e : r = s
          · subst e; simp [hrl] at h; exact .inl ⟨rfl, h.symm⟩
          · rw [List.getElem?_set_ne e] at h; exact .inr ⟨fun h => e h.symm, h⟩
        have live : ∀ (s : Nat) (S : Root), (ρ.set r (some ⟨R.sz, R.els.set i (putEl E j X), R.ob⟩))[s]? = some (some S) → ∃ S', ρ[s]? = some (some S') ∧ S'.sz = S.sz := by
          intro s S h
          rcases newget s S h with ⟨rfl, rfl⟩ | ⟨_, h2⟩
          · exact ⟨R, hR, rfl⟩
          · exact ⟨S, h2, rfl⟩
        constructor
        · intro s S m h hm
          obtain ⟨S', h1, h2⟩ := live s S h
          obtain ⟨a1, a2, a3, a4⟩ := hs.sr.real s S' m h1 hm
          exact ⟨by rw [← h2]; exact a1, by rw [setCells_size]; exact a2, a3, a4⟩
        · intro s S m h hm i' hi'
          simp only [List.length_set]
          rcases newget s S h with ⟨rfl, rfl⟩ | ⟨hne', h2⟩
          · rw [hl] at hm; cases hm
            simp only [List.length_set] at hi'
            by_cases ei : i = i'
            · subst ei
              have e1 : (R.els.set i (putEl E j X)).getD i .any = putEl E j X := by simp [List.getD, hi]
              simp only [e1]
              have hpc := putEl_cells (e := E) (j := j) (x := X) (by omega) hne
              rw [hpc]
              refine ⟨by simp; omega, fun k hk' => ?_⟩
              rw [cellf_setCells hcell]
              by_cases hin : j ≤ k ∧ k < j + X.cells.length
              · have hcond : l.b = l.b ∧ l.off + i * l.sz + j ≤ l.off + i * R.sz + k ∧ l.off + i * R.sz + k < l.off + i * l.sz + j + (a.eval x).cells.toList.length := by rw [esz]; omega
                rw [dif_pos hcond]
                refine ⟨_, rfl, hg.rel ?_⟩
                have e2 : ((E.cells.take j ++ X.cells ++ E.cells.drop (j + X.cells.length))).getD k .any = X.cells.getD (k - j) .any := by
                  have hl1 : (E.cells.take j).length = j := by simp; omega
                  rw [List.append_assoc]
                  unfold List.getD
                  rw [List.getElem?_append_right (by omega), hl1, List.getElem?_append_left (by omega)]
                rw [e2]
                have := hxc.2 (k - j) (by omega)
                have e3 : (a.eval x).cells.toList.getD (k - j) undef = (a.eval x).cells.toList[l.off + i * R.sz + k - (l.off + i * l.sz + j)]'(by rw [esz]; omega) := by
                  have : l.off + i * R.sz + k - (l.off + i * l.sz + j) = k - j := by rw [esz]; omega
                  simp only [this, List.getD]
                  rw [List.getElem?_eq_getElem (by omega)]; rfl
                rw [← e3]; exact this
              · have hcond : ¬ (l.b = l.b ∧ l.off + i * l.sz + j ≤ l.off + i * R.sz + k ∧ l.off + i * R.sz + k < l.off + i * l.sz + j + (a.eval x).cells.toList.length) := by rw [esz]; omega
                rw [dif_neg hcond]
                obtain ⟨u, hu1, hu2⟩ := hcc k hk'
                refine ⟨u, hu1, hg.rel ?_⟩
                have e2 : ((E.cells.take j ++ X.cells ++ E.cells.drop (j + X.cells.length))).getD k .any = E.cells.getD k .any := by
                  have hl1 : (E.cells.take j).length = j := by simp; omega
                  rw [List.append_assoc]
                  unfold List.getD
                  by_cases hk1 : k < j
                  · rw [List.getElem?_append_left (by omega), List.getElem?_take_of_lt hk1]
                  · rw [List.getElem?_append_right (by omega), hl1, List.getElem?_append_right (by omega), List.getElem?_drop]
                    congr 2; omega
                rw [e2]; exact hu2
            · have e1 : (R.els.set i (putEl E j X)).getD i' .any = R.els.getD i' .any := by simp [List.getD, List.getElem?_set_ne ei]
              simp only [e1]
              obtain ⟨b1, b2⟩ := hs.sr.cells _ R l hR hl i' hi'
              refine ⟨b1, fun k hk' => ?_⟩
              obtain ⟨u, hu1, hu2⟩ := b2 k hk'
              refine ⟨u, ?_, hg.rel hu2⟩
              rw [cellf_setCells hcell, dif_neg]
              · exact hu1
              · rintro ⟨_, c1, c2⟩
                rw [esz] at c1 c2
                have : i < i' ∨ i' < i := by omega
                rcases this with h' | h'
                · have : (i + 1) * R.sz ≤ i' * R.sz := Nat.mul_le_mul_right _ h'
                  rw [Nat.add_mul] at this; omega
                · have : (i' + 1) * R.sz ≤ i * R.sz := Nat.mul_le_mul_right _ h'
                  rw [Nat.add_mul] at this; omega
          · obtain ⟨b1, b2⟩ := hs.sr.cells s S m h2 hm i' hi'
            refine ⟨b1, fun k hk' => ?_⟩
            obtain ⟨u, hu1, hu2⟩ := b2 k hk'
            refine ⟨u, ?_, hg.rel hu2⟩
            rw [cellf_setCells hcell, dif_neg]
            · exact hu1
            · rintro ⟨c0, _⟩
              exact hne' (hs.sr.inj s r S R m l h2 hR hm hl c0)
        · intro s S h hm
          rcases newget s S h with ⟨rfl, rfl⟩ | ⟨hne', h2⟩
          · rw [hl] at hm; cases hm
          · exact hs.sr.phantom s S h2 hm
        · intro s1 s2 S1 S2 m1 m2 h1 h2 hm1 hm2 e
          obtain ⟨S1', g1, _⟩ := live s1 S1 h1
          obtain ⟨S2', g2, _⟩ := live s2 S2 h2
          exact hs.sr.inj s1 s2 S1' S2' m1 m2 g1 g2 hm1 hm2 e
        · intro b hb; rw [setCells_size]; exact hs.sr.ilt b hb
        · intro b hb; rw [setCells_size]; exact hs.sr.flt b hb
        · intro s S m h hm o'
          obtain ⟨S', g1, _⟩ := live s S h
          rw [World.frozen?_setCells]; exact hs.sr.thaw s S' m g1 hm o'
        · intro s S o' h ho'
          simp only [List.length_set]
          rcases newget s S h with ⟨rfl, rfl⟩ | ⟨hne', h2⟩
          · have := (hs.sr.obs _ R o' hR ho').1
            rw [this] at hi; simp at hi
          · obtain ⟨e, m, x', h3, h4, h5⟩ := hs.sr.obs s S o' h2 ho'
            exact ⟨e, m, x', h3, by rw [setCells_block _ _ _ _ _ (fun c0 => hne' (hs.sr.inj s r S R m l h2 hR h3 hl c0))]; exact h4, h5.mono fun a v => hg.rel⟩
  · exact h.elim
end Go.Lg
