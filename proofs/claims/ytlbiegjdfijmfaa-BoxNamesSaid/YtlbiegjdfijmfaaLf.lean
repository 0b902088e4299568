import Derived.Test.YtlbiegjdfijmfaaLe
set_option linter.unusedVariables false
namespace Go.Lg
variable {P : Program}

theorem fold_set (off : Nat) : ∀ (l : List Value) (k : Nat) (cells : Array Value), off + k + l.length ≤ cells.size →
    ((l.zipIdx k).foldl (fun cs (x : Value × Nat) => cs.setIfInBounds (off + x.2) x.1) cells).toList = cells.toList.take (off + k) ++ l ++ cells.toList.drop (off + k + l.length)
  | [], k, cells, h => by simp
  | v :: l, k, cells, h => by
    simp only [List.zipIdx_cons, List.foldl_cons]
    simp only [List.length_cons] at h
    rw [fold_set off l (k + 1) _ (by simp; omega)]
    have hlt : off + k < cells.toList.length := by simp; omega
    have hset : (cells.setIfInBounds (off + k) v).toList = cells.toList.take (off + k) ++ v :: cells.toList.drop (off + k + 1) := by
      rw [Array.toList_setIfInBounds, List.set_eq_take_append_cons_drop, if_pos hlt]
    rw [hset]
    have e1 : (cells.toList.take (off + k) ++ v :: cells.toList.drop (off + k + 1)).take (off + (k + 1)) = cells.toList.take (off + k) ++ [v] := by
      rw [List.take_append]
      have : (cells.toList.take (off + k)).length = off + k := by simp; omega
      rw [this, List.take_of_length_le (by omega), show off + (k + 1) - (off + k) = 1 by omega]; simp
    have e2 : (cells.toList.take (off + k) ++ v :: cells.toList.drop (off + k + 1)).drop (off + (k + 1) + l.length) = cells.toList.drop (off + k + (l.length + 1)) := by
      rw [List.drop_append]
      have : (cells.toList.take (off + k)).length = off + k := by simp; omega
      rw [this, List.drop_eq_nil_of_le (by omega), show off + (k + 1) + l.length - (off + k) = l.length + 1 by omega]
      simp; congr 1; omega
    rw [e1, e2]; simp

theorem fold_cells (off : Nat) (vc cells : Array Value) (h : off + vc.size ≤ cells.size) :
    (vc.zipIdx.foldl (fun cs (x : Value × Nat) => cs.setIfInBounds (off + x.2) x.1) cells).toList = cells.toList.take off ++ vc.toList ++ cells.toList.drop (off + vc.size) := by
  have := fold_set off vc.toList 0 cells (by simpa using h)
  rw [← Array.foldl_toList, Array.toList_zipIdx]
  simpa using this

theorem RelL.append {c I N β l l' vs vs'} (h : RelL c I N β l vs) (h' : RelL c I N β l' vs') : RelL c I N β (l ++ l') (vs ++ vs') := by
  induction l generalizing vs with
  | nil => rw [h.nil]; exact h'
  | cons a l ih =>
    obtain ⟨v, r, rfl, hv, hr⟩ := h.cons
    exact .mk hv (ih hr)
theorem RelL.take {c I N β l vs} (h : RelL c I N β l vs) (n : Nat) : RelL c I N β (l.take n) (vs.take n) := by
  induction l generalizing vs n with
  | nil => rw [h.nil]; simp; exact .mk_nil
  | cons a l ih =>
    obtain ⟨v, r, rfl, hv, hr⟩ := h.cons
    cases n with
    | zero => simp; exact .mk_nil
    | succ n => simp; exact .mk hv (ih hr n)
theorem RelL.drop {c I N β l vs} (h : RelL c I N β l vs) (n : Nat) : RelL c I N β (l.drop n) (vs.drop n) := by
  induction l generalizing vs n with
  | nil => rw [h.nil]; simp; exact .mk_nil
  | cons a l ih =>
    obtain ⟨v, r, rfl, hv, hr⟩ := h.cons
    cases n with
    | zero => simp; exact .mk hv hr
    | succ n => simp; exact ih hr n

/-- the parts of an aggregate: number, value -/
def RelP (c : Nat → Nat → Option Value) (I : Nat → Prop) (N : Nat) (β : Nat → Option Loc) (l : List (Nat × AV)) (vs : List (Nat × Value)) : Prop :=
  l.map (·.1) = vs.map (·.1) ∧ RelL c I N β (l.map (·.2)) (vs.map (·.2))
theorem RelP.nil {c I N β vs} (h : RelP c I N β [] vs) : vs = [] := by simpa using h.1.symm
theorem RelP.cons {c I N β a l vs} (h : RelP c I N β (a :: l) vs) : ∃ v r, vs = (a.1, v) :: r ∧ Rel c I N β a.2 v ∧ RelP c I N β l r := by
  obtain ⟨h1, h2⟩ := h
  cases vs with
  | nil => simp at h1
  | cons v r =>
    obtain ⟨i, v⟩ := v
    simp at h1 h2
    obtain ⟨v', r', e, hv, hr⟩ := h2.cons
    cases e
    exact ⟨v, r, by rw [h1.1], hv, h1.2, hr⟩

theorem fill_run {place : Nat → Option (Nat × Nat)} {c I N β} : ∀ {parts : List (Nat × AV)} {vs : List (Nat × Value)} {cells : List AV} {cv : Array Value} {out : List AV},
    fillA place cells parts = some out → (∀ p ∈ parts, p.2.ok = true) → RelP c I N β parts vs → RelL c I N β cells cv.toList →
    ∃ ov, Instr.fill place cv vs = some ov ∧ RelL c I N β out ov.toList := by
  intro parts
  induction parts with
  | nil => intro vs cells cv out h _ hp hc; simp [fillA] at h; subst h; rw [hp.nil]; exact ⟨cv, rfl, hc⟩
  | cons p parts ih =>
    intro vs cells cv out h ho hp hc
    obtain ⟨v, r, rfl, hv, hr⟩ := hp.cons
    obtain ⟨i, x⟩ := p
    simp only [fillA] at h
    cases hpl : place i with
    | none => simp [hpl] at h
    | some q =>
      obtain ⟨off, size⟩ := q
      simp only [hpl] at h
      split at h
      · rename_i hcond
        obtain ⟨h1, h2⟩ := hcond
        obtain ⟨hx, hx1⟩ := ok_cells hv (ho (i, x) (by simp))
        have hsz : v.cells.size = size := by have := hx.1; simp at this; omega
        have hcs : cv.size = cells.length := by simpa using hc.1
        have hfold := fold_cells off v.cells cv (by omega)
        have hrel : RelL c I N β (cells.take off ++ x.cells ++ cells.drop (off + size)) (v.cells.zipIdx.foldl (fun cs (x : Value × Nat) => cs.setIfInBounds (off + x.2) x.1) cv).toList := by
          rw [hfold, hsz]; exact ((hc.take off).append hx).append (hc.drop _)
        obtain ⟨ov, h3, h4⟩ := ih h (fun q hq => ho q (by simp [hq])) hr hrel
        refine ⟨ov, ?_, h4⟩
        simp only [Instr.fill, hpl]
        rw [if_neg (by simp [hsz]; omega)]
        exact h3
      · cases h

def zeroA (P : Program) (t : TypeId) : Option AV := ((P.info? t).bind (·.zero)).map ofV

/-- places of a struct's fields -/
def placesOf (P : Program) (t : TypeId) : Option (Nat → Option (Nat × Nat)) :=
  match P.underlying t with
  | some (.struct fs) => if fs.all (fun f => known P f.type) then some (fun i => (fs[i]?).map fun (f : Field) => (f.offset, P.cellsOf f.type)) else none
  | some (.array _ e) => if known P e then some (fun i => some (i * P.cellsOf e, P.cellsOf e)) else none
  | _ => none

def aBuild (P : Program) (t : TypeId) (parts : List (Nat × AV)) (v : AV) : Prop :=
  ∃ z pl out, zeroA P t = some z ∧ z.ok = true ∧ placesOf P t = some pl ∧ (parts.all fun p => p.2.ok) = true ∧ fillA pl z.cells parts = some out ∧ v = .agg out

theorem run_zero {t : TypeId} {z : AV} (h : zeroA P t = some z) (w : World) : ∃ u, (zeroValue t).run P w = .ok u w ∧ z = ofV u := by
  unfold zeroA at h
  cases hi : P.info? t with
  | none => simp [hi] at h
  | some i =>
    cases hz : i.zero with
    | none => simp [hi, hz] at h
    | some u => simp [hi, hz] at h; exact ⟨u, by simp [zeroValue, typeInfo, hi, hz], h.symm⟩

theorem mapM_places {w : World} : ∀ (fs : List Field), (fs.all fun f => known P f.type) = true →
    (fs.mapM fun (f : Field) => (do pure (f.offset, ← sizeOf f.type) : Sem (Nat × Nat))).run P w = .ok (fs.map fun (f : Field) => (f.offset, P.cellsOf f.type)) w
  | [], _ => by simp
  | f :: fs, h => by
    simp at h
    have ih := mapM_places (w := w) fs (by simpa using h.2)
    simp at ih
    simp [run_sizeOf' h.1, ih]

theorem aBuild_run {t parts v} {w : World} {c I N β} {vs : List (Nat × Value)} (h : aBuild P t parts v) (hp : RelP c I N β parts vs) :
    ∃ u, (Instr.build t vs.toArray).run P w = .ok u w ∧ Rel c I N β v u := by
  obtain ⟨z, pl, out, hz, hzo, hpl, hok, hf, rfl⟩ := h
  obtain ⟨zv, hzv, rfl⟩ := run_zero hz w
  have hzr := (ok_cells (ofV_rel c I N β zv) hzo).1
  unfold placesOf at hpl
  obtain ⟨ov, h1, h2⟩ := fill_run (c := c) (I := I) (N := N) (β := β) hf (by simpa using hok) hp hzr
  split at hpl
  · rename_i fs hu
    split at hpl
    · rename_i hk
      cases hpl
      refine ⟨.agg ov, ?_, h2.agg⟩
      have hm := mapM_places (P := P) (w := w) fs.toList (by simpa using hk)
      have hfun : (fun (i : Nat) => (fs[i]?).map fun (f : Field) => (f.offset, P.cellsOf f.type)) = (fun (i : Nat) => (fs.map fun (f : Field) => (f.offset, P.cellsOf f.type))[i]?) := by
        funext i; simp
      rw [hfun] at h1
      have hm' : (fs.mapM fun (f : Field) => (do pure (f.offset, ← sizeOf f.type) : Sem (Nat × Nat))).run P w = .ok (fs.map fun (f : Field) => (f.offset, P.cellsOf f.type)) w := by
        rw [Array.mapM_eq_mapM_toList, Sem.run_map, hm]; show Result.ok _ w = _; congr 1; exact Array.ext' (by simp)
      simp only [Instr.build, Sem.run_bind, hzv, Result.andThen_ok, run_underlying hu, hm']
      simp only [h1]
      rfl
    · cases hpl
  · rename_i n e hu
    split at hpl
    · rename_i hk
      cases hpl
      refine ⟨.agg ov, ?_, h2.agg⟩
      simp only [Instr.build, Sem.run_bind, hzv, Result.andThen_ok, run_underlying hu, run_sizeOf' hk]
      simp only [h1]
      rfl
    · cases hpl
  · cases hpl
end Go.Lg
