import Derived.Test.YtlbiegjdfijmfaaLa
set_option linter.unusedVariables false
namespace Go.Lg
variable {P : Program}

def aggB (P : Program) (t : TypeId) : Bool := match P.underlying t with
  | some (.struct _) | some (.array _ _) => true
  | _ => false
def known (P : Program) (t : TypeId) : Bool := (P.underlying t).isSome

theorem info_of_known {t : TypeId} (h : known P t = true) : ∃ i, P.info? t = some i := by
  unfold known Program.underlying at h
  cases hi : P.info? t with
  | none => simp [hi] at h
  | some i => exact ⟨i, rfl⟩

theorem run_sizeOf' {t : TypeId} (h : known P t = true) (w : World) : (sizeOf t).run P w = .ok (P.cellsOf t) w := by
  obtain ⟨i, hi⟩ := info_of_known h
  simp [sizeOf, typeInfo, hi, Program.cellsOf]

theorem run_isAgg' {t : TypeId} (h : known P t = true) (w : World) : (isAgg t).run P w = .ok (aggB P t) w := by
  unfold known at h
  obtain ⟨d, hd⟩ := Option.isSome_iff_exists.1 h
  unfold isAgg aggB
  simp only [Sem.run_bind, run_underlying hd, Result.andThen_ok, hd]
  cases d <;> rfl

theorem add_none (b o n : Nat) : (⟨b, o, none⟩ : Addr).add n = ⟨b, o + n, none⟩ := by unfold Addr.add; split <;> simp_all

/-- what a variable of type t, whose cells begin with these, is loaded as -/
def pack (P : Program) (t : TypeId) (cs : List AV) : Option AV :=
  if known P t then
    if aggB P t then (if P.cellsOf t ≤ cs.length then some (.agg (cs.take (P.cellsOf t))) else none)
    else cs.head?
  else none

theorem getD_take (cs : List AV) (n j : Nat) (h : j < n) : (cs.take n).getD j .any = cs.getD j .any := by
  simp [List.getD, List.getElem?_take_of_lt h]

theorem run_loadVar' {t : TypeId} {w : World} {I N β} {b o : Nat} {cs : List AV} {av : AV} (hp : pack P t cs = some av)
    (h : ∀ j, j < cs.length → ∃ v, cellf w b (o + j) = some v ∧ Rel (cellf w) I N β (cs.getD j .any) v) :
    ∃ u, (loadVar t ⟨b, o, none⟩).run P w = .ok u w ∧ Rel (cellf w) I N β av u := by
  unfold pack at hp
  by_cases hk : known P t = true
  · simp only [hk, if_true] at hp
    by_cases ha : aggB P t = true
    · simp only [ha, if_true] at hp
      split at hp
      · rename_i hn
        cases hp
        let f : Nat → Value := fun j => if hj : j < cs.length then (h j hj).choose else undef
        have hf : ∀ j, j < P.cellsOf t → w.cell? ((⟨b, o, none⟩ : Addr).add j) = some (f j) := fun j hj => by
          have hj' : j < cs.length := by omega
          rw [add_none]; simp only [f, hj', dif_pos]
          exact (h j hj').choose_spec.1
        refine ⟨.agg ((List.range (P.cellsOf t)).map f).toArray, ?_, ?_⟩
        · simp only [loadVar, Sem.run_bind, run_isAgg' hk, Result.andThen_ok, ha, if_true, run_sizeOf' hk, run_loadCells w _ _ f hf, Sem.run_pure]
        · refine .agg _ _ (by simp; omega) (fun j hj => ?_)
          have hj1 : j < P.cellsOf t := by simp at hj; omega
          have hj' : j < cs.length := by omega
          have e : ((List.range (P.cellsOf t)).map f).toArray.getD j undef = f j := by simp [Array.getD, hj1]
          rw [e, getD_take _ _ _ hj1]; simp only [f, hj', dif_pos]
          exact (h j hj').choose_spec.2
      · cases hp
    · simp only [ha] at hp
      cases cs with
      | nil => simp at hp
      | cons x r =>
        simp at hp; subst hp
        obtain ⟨v, h1, h2⟩ := h 0 (by simp)
        refine ⟨v, ?_, by simpa using h2⟩
        have h1' : w.cell? ⟨b, o, none⟩ = some v := by simpa [cellf] using h1
        have ha' : aggB P t = false := by simpa using ha
        simp [loadVar, run_isAgg' hk, ha', h1']
  · simp [hk] at hp

/-- scalar values: an abstract value that is one value -/
def scs : List AV → Option (List Value)
  | [] => some []
  | .sc v :: r => (scs r).map (v :: ·)
  | _ => none
def toV : AV → Option Value
  | .sc v => some v
  | .agg c => (scs c).map fun l => .agg l.toArray
  | _ => none
def ofV : Value → AV
  | .agg cs => .agg (cs.toList.map .sc)
  | v => .sc v

theorem scs_spec {c I N β} : ∀ {cs : List AV} {l : List Value}, scs cs = some l → ∀ {vs : Array Value}, vs.size = cs.length →
    (∀ j, j < cs.length → Rel c I N β (cs.getD j .any) (vs.getD j undef)) → vs.toList = l := by
  intro cs
  induction cs with
  | nil => intro l h vs hn hv; simp [scs] at h; subst h; simpa using hn
  | cons x r ih =>
    intro l h vs hn hv
    cases x <;> simp [scs] at h
    rename_i v
    obtain ⟨l', h', rfl⟩ := h
    obtain ⟨L⟩ := vs
    cases L with
    | nil => simp at hn
    | cons u L =>
      have h0 := hv 0 (by simp)
      simp [Array.getD] at h0
      cases h0
      have := ih h' (vs := L.toArray) (by simpa using hn) (fun j hj => by
        have := hv (j + 1) (by simpa using hj)
        simp at hn
        have hj2 : j < L.length := by omega
        simpa [Array.getD, hj2] using this)
      simp at this
      simp [this]

theorem toV_spec {c I N β a u v} (h : toV a = some u) (hr : Rel c I N β a v) : v = u := by
  cases a <;> simp [toV] at h
  · subst h; cases hr; rfl
  · obtain ⟨l, hl, rfl⟩ := h
    cases hr with
    | agg cs vs hn hv =>
      have := scs_spec hl hn hv
      rw [← this]

theorem ofV_rel (c I N β) (v : Value) : Rel c I N β (ofV v) v := by
  cases v with
  | agg cs => exact .agg _ _ (by simp) (fun j hj => by
      have hj' : j < cs.size := by simpa using hj
      have : (cs.toList.map AV.sc).getD j .any = .sc cs[j] := by simp [List.getD, hj']
      rw [this]; simp [Array.getD, hj']; exact .sc _)
  | _ => exact .sc _

/-- an evaluation that looks at the program alone -/
def _root_.Go.Sem.pv {α : Type} (P : Program) : Sem α → Option α
  | .pure a => some a
  | .program k => (k P).pv P
  | .mark _ k => k.pv P
  | _ => none
theorem run_of_pv {α : Type} {s : Sem α} {a : α} (h : s.pv P = some a) (w : World) : s.run P w = .ok a w := by
  induction s <;> simp_all [Sem.pv, Sem.run]

end Go.Lg
