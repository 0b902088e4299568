import Derived.Test.YtlbiegjdfijmfaaLd
set_option linter.unusedVariables false
namespace Go.Lg
variable {P : Program}

def RelL (c : Nat → Nat → Option Value) (I : Nat → Prop) (N : Nat) (β : Nat → Option Loc) (l : List AV) (vs : List Value) : Prop :=
  vs.length = l.length ∧ ∀ j, j < l.length → Rel c I N β (l.getD j .any) (vs.getD j undef)

theorem RelL.nil {c I N β vs} (h : RelL c I N β [] vs) : vs = [] := by simpa using h.1
theorem RelL.cons {c I N β a l vs} (h : RelL c I N β (a :: l) vs) : ∃ v r, vs = v :: r ∧ Rel c I N β a v ∧ RelL c I N β l r := by
  obtain ⟨hn, hv⟩ := h
  cases vs with
  | nil => simp at hn
  | cons v r =>
    refine ⟨v, r, rfl, by simpa using hv 0 (by simp), by simpa using hn, fun j hj => ?_⟩
    simpa using hv (j + 1) (by simpa using hj)
theorem RelL.mk_nil {c I N β} : RelL c I N β [] [] := ⟨rfl, fun j hj => by simp at hj⟩
theorem RelL.mk {c I N β a l v vs} (h : Rel c I N β a v) (hl : RelL c I N β l vs) : RelL c I N β (a :: l) (v :: vs) := by
  refine ⟨by simp [hl.1], fun j hj => ?_⟩
  cases j with
  | zero => simpa using h
  | succ j => simpa using hl.2 j (by simpa using hj)
theorem RelL.of_map {c I N β} (A : List AV) (f : Operand → Value) (h : ∀ x, Rel c I N β (aev A x) (f x)) (xs : List Operand) : RelL c I N β (xs.map (aev A)) (xs.map f) := by
  induction xs with
  | nil => exact .mk_nil
  | cons x r ih => exact .mk (h x) ih
theorem RelL.agg {c I N β l} {vs : Array Value} (h : RelL c I N β l vs.toList) : Rel c I N β (.agg l) (.agg vs) :=
  .agg _ _ (by simpa using h.1) (fun j hj => by
    have := h.2 j hj
    have hj' : j < vs.size := by have := h.1; simp at this; omega
    simpa [Array.getD, List.getD, hj'] using this)
theorem RelL.tup {c I N β l} {vs : Array Value} (h : RelL c I N β l vs.toList) : Rel c I N β (.tup l) (.tuple vs) :=
  .tup _ _ (by simpa using h.1) (fun j hj => by
    have := h.2 j hj
    have hj' : j < vs.size := by have := h.1; simp at this; omega
    simpa [Array.getD, List.getD, hj'] using this)
theorem RelL.of_agg {c I N β l} {vs : Array Value} (h : Rel c I N β (.agg l) (.agg vs)) : RelL c I N β l vs.toList := by
  cases h with
  | agg _ _ hn hv =>
    refine ⟨by simpa using hn, fun j hj => ?_⟩
    have hj' : j < vs.size := by omega
    simpa [Array.getD, List.getD, hj'] using hv j hj

def asInts (k : IntKind) : List AV → Option (List Int)
  | [] => some []
  | .sc (.int k' n) :: r => if k' = k then (asInts k r).map (n :: ·) else none
  | _ => none

def aBuiltin (P : Program) (b : Builtin) (ts : Array TypeId) (args : List AV) (v : AV) : Prop :=
  match b with
  | .len => (match args, ts[0]? with
    | [x], some t => (match P.underlying t, x with
      | some (.slice _), .isl _ L => v = .sc (.int .i64 L.length)
      | some (.slice _), .sl _ _ n => v = .sc (.int .i64 n)
      | some (.slice _), .sc (.slice _ n _) => v = .sc (.int .i64 n)
      | some (.slice _), .sub _ _ _ _ n => v = .sc (.int .i64 n)
      | some .string, .sc (.string s) => v = .sc (.int .i64 s.size)
      | some (.array n _), _ => v = .sc (.int .i64 n)
      | _, _ => False)
    | _, _ => False)
  | .min => (match args with
    | .sc (.int k m) :: r => ∃ l, asInts k r = some l ∧ v = .sc (.int k (l.foldl min m))
    | _ => False)
  | .max => (match args with
    | .sc (.int k m) :: r => ∃ l, asInts k r = some l ∧ v = .sc (.int k (l.foldl max m))
    | _ => False)
  | _ => False

theorem minfold (P : Program) (w : World) (k : IntKind) : ∀ (r : List AV) (l : List Int) (m : Int) (vs : List Value) {c I N β}, asInts k r = some l → RelL c I N β r vs →
    (vs.foldlM Builtin.min2 (.int k m) : Sem Value).run P w = .ok (.int k (l.foldl min m)) w
  | [], l, m, vs, _, _, _, _, h, hr => by simp [asInts] at h; subst h; rw [hr.nil]; simp
  | x :: r, l, m, vs, c, I, N, β, h, hr => by
    obtain ⟨v, vr, rfl, hx, hr'⟩ := hr.cons
    cases x with
    | sc u =>
      cases u <;> simp [asInts] at h
      rename_i k' n
      obtain ⟨rfl, l', h', rfl⟩ := h
      cases hx
      have ih := minfold P w k' r l' (min m n) vr h' hr'
      have e : (if n < m then n else m) = min m n := by omega
      simp [Builtin.min2, e, ih]
    | _ => simp [asInts] at h
theorem maxfold (P : Program) (w : World) (k : IntKind) : ∀ (r : List AV) (l : List Int) (m : Int) (vs : List Value) {c I N β}, asInts k r = some l → RelL c I N β r vs →
    (vs.foldlM Builtin.max2 (.int k m) : Sem Value).run P w = .ok (.int k (l.foldl max m)) w
  | [], l, m, vs, _, _, _, _, h, hr => by simp [asInts] at h; subst h; rw [hr.nil]; simp
  | x :: r, l, m, vs, c, I, N, β, h, hr => by
    obtain ⟨v, vr, rfl, hx, hr'⟩ := hr.cons
    cases x with
    | sc u =>
      cases u <;> simp [asInts] at h
      rename_i k' n
      obtain ⟨rfl, l', h', rfl⟩ := h
      cases hx
      have ih := maxfold P w k' r l' (max m n) vr h' hr'
      have e : (if m < n then n else m) = max m n := by omega
      simp [Builtin.max2, e, ih]
    | _ => simp [asInts] at h

theorem aBuiltin_run {b ts args v} {w : World} {c I N β} {vs : Array Value} {ty cs} (h : aBuiltin P b ts args v) (hr : RelL c I N β args vs.toList) :
    ∃ u, (builtin b ts ty cs vs).run P w = .ok (.value u) w ∧ Rel c I N β v u := by
  unfold aBuiltin at h
  obtain ⟨L⟩ := vs
  simp only at hr
  split at h
  · split at h
    · rename_i x t ht
      obtain ⟨vx, r, rfl, hx, hr'⟩ := hr.cons
      obtain rfl := hr'.nil
      split at h
      · rename_i hu
        subst h
        cases hx with
        | isl _ _ b off cap vs hb hn hz hc hv => exact ⟨_, by simp [builtin, Builtin.len_, ht, run_underlying hu, goInt], .sc _⟩
        | islz => exact ⟨_, by simp [builtin, Builtin.len_, ht, run_underlying hu, goInt], .sc _⟩
      · rename_i hu
        subst h
        cases hx with
        | sl _ _ _ cap l hr hl hn hc => exact ⟨_, by simp [builtin, Builtin.len_, ht, run_underlying hu, goInt], .sc _⟩
        | slz _ _ a hr => exact ⟨_, by simp [builtin, Builtin.len_, ht, run_underlying hu, goInt], .sc _⟩
      · rename_i hu
        subst h
        cases hx
        exact ⟨_, by simp [builtin, Builtin.len_, ht, run_underlying hu, goInt], .sc _⟩
      · rename_i hu
        subst h
        cases hx with
        | sub => exact ⟨_, by simp [builtin, Builtin.len_, ht, run_underlying hu, goInt], .sc _⟩
        | subz => exact ⟨_, by simp [builtin, Builtin.len_, ht, run_underlying hu, goInt], .sc _⟩
      · rename_i hu
        subst h
        cases hx
        exact ⟨_, by simp [builtin, Builtin.len_, ht, run_underlying hu, goInt], .sc _⟩
      · rename_i hu
        subst h
        exact ⟨_, by simp [builtin, Builtin.len_, ht, run_underlying hu, goInt], .sc _⟩
      · exact h.elim
    · exact h.elim
  · split at h
    · rename_i k m r
      obtain ⟨l, h1, rfl⟩ := h
      obtain ⟨vx, vr, rfl, hx, hr'⟩ := hr.cons
      cases hx
      exact ⟨_, by simp [builtin, Builtin.min_, minfold P w k r l m vr h1 hr'], .sc _⟩
    · exact h.elim
  · split at h
    · rename_i k m r
      obtain ⟨l, h1, rfl⟩ := h
      obtain ⟨vx, vr, rfl, hx, hr'⟩ := hr.cons
      cases hx
      exact ⟨_, by simp [builtin, Builtin.max_, maxfold P w k r l m vr h1 hr'], .sc _⟩
    · exact h.elim
  · exact h.elim

def aUn (P : Program) (op : UnOp) (x v : AV) : Prop :=
  match op, x with
  | .not, .sc (.bool b) => v = .sc (.bool (!b))
  | .neg, .sc (.int k n) => inR k (0 - n) ∧ v = .sc (.int k (0 - n))
  | op, x => ∃ vx u, toV x = some vx ∧ (Op.unary op vx).pv P = some u ∧ v = ofV u

theorem aUn_run {op x v} {w : World} {c I N β vx} (h : aUn P op x v) (hx : Rel c I N β x vx) : ∃ u, (Op.unary op vx).run P w = .ok u w ∧ Rel c I N β v u := by
  unfold aUn at h
  split at h
  · subst h; cases hx; exact ⟨_, rfl, .sc _⟩
  · obtain ⟨hr, rfl⟩ := h; cases hx
    exact ⟨_, by simp only [Op.unary, Op.intArith, wrap_inR hr]; rfl, .sc _⟩
  · obtain ⟨vx', u, h1, h2, rfl⟩ := h
    have := toV_spec h1 hx; subst this
    exact ⟨u, run_of_pv h2 w, ofV_rel _ _ _ _ _⟩

def aConv (P : Program) (s d : TypeId) (x v : AV) : Prop :=
  match P.underlying d, x with
  | some (.int k), .sc (.int _ n) => known P s = true ∧ v = .sc (.int k (k.wrap n))
  | _, x => ∃ vx u, toV x = some vx ∧ (convert s d vx).pv P = some u ∧ v = ofV u

theorem aConv_run {s d x v} {w : World} {c I N β vx} (h : aConv P s d x v) (hx : Rel c I N β x vx) : ∃ u, (convert s d vx).run P w = .ok u w ∧ Rel c I N β v u := by
  unfold aConv at h
  split at h
  · rename_i hd
    obtain ⟨hs, rfl⟩ := h; cases hx
    unfold known at hs
    obtain ⟨ds, hs'⟩ := Option.isSome_iff_exists.1 hs
    exact ⟨_, by simp [convert, run_underlying hs', run_underlying hd, Conv.intToInt], .sc _⟩
  · obtain ⟨vx', u, h1, h2, rfl⟩ := h
    have := toV_spec h1 hx; subst this
    exact ⟨u, run_of_pv h2 w, ofV_rel _ _ _ _ _⟩

/-- build -/
def fillA (place : Nat → Option (Nat × Nat)) (cells : List AV) : List (Nat × AV) → Option (List AV)
  | [] => some cells
  | (i, x) :: rest => match place i with
    | none => none
    | some (off, size) => if x.cells.length = size ∧ off + size ≤ cells.length then fillA place (cells.take off ++ x.cells ++ cells.drop (off + size)) rest else none

theorem rel_cells {c I N β x v} (h : Rel c I N β x v) (hne : x ≠ .any) (ht : ∀ l, x ≠ .tup l) (hs : ∀ u, x = .sc u → ∀ cs, u ≠ .agg cs) :
    RelL c I N β x.cells v.cells.toList := by
  cases h with
  | any => exact absurd rfl hne
  | tup cs vs => exact absurd rfl (ht cs)
  | agg cs vs hn hv => exact RelL.of_agg (.agg cs vs hn hv)
  | sc v =>
    cases v <;> first
      | exact RelL.mk (.sc _) .mk_nil
      | exact absurd rfl (hs _ rfl _)
  | ptr r i j l hr hl => exact RelL.mk (.ptr r i j l hr hl) .mk_nil
  | sl r o n cap l hr hl hn hc => exact RelL.mk (.sl r o n cap l hr hl hn hc) .mk_nil
  | slz r o a hr => exact RelL.mk (.slz r o a hr) .mk_nil
  | isl sz L b off cap vs hb hn hz hc hv => exact RelL.mk (.isl sz L b off cap vs hb hn hz hc hv) .mk_nil
  | islz sz a => exact RelL.mk (.islz sz a) .mk_nil
  | iptr cs b off vs hb hc hv => exact RelL.mk (.iptr cs b off vs hb hc hv) .mk_nil
  | clo fn fs cs us vs hm hu hn hv => exact RelL.mk (.clo fn fs cs us vs hm hu hn hv) .mk_nil
  | yld r l hr hl => exact RelL.mk (.yld r l hr hl) .mk_nil
  | sub r i j sz n cap l hr hl hn => exact RelL.mk (.sub r i j sz n cap l hr hl hn) .mk_nil
  | subz r i j sz a hr => exact RelL.mk (.subz r i j sz a hr) .mk_nil
  | mp r l hr hl => exact RelL.mk (.mp r l hr hl) .mk_nil
  | sit r l hr hl => exact RelL.mk (.sit r l hr hl) .mk_nil
  | ifc t a v h => exact RelL.mk (.ifc t a v h) .mk_nil

/-- a value whose cells are known to be single cells -/
def AV.one : AV → Bool
  | .sc v => v.oneCell'
  | .ptr .. | .sl .. | .isl .. | .iptr _ | .clo .. | .yld _ | .sub .. | .mp _ | .sit _ | .ifc .. => true
  | _ => false
def AV.ok (x : AV) : Bool := match x with
  | .agg c => c.all AV.one
  | x => x.one

theorem ok_cells {c I N β x v} (h : Rel c I N β x v) (ho : x.ok = true) : RelL c I N β x.cells v.cells.toList ∧ ∀ y ∈ v.cells.toList, y.oneCell' = true := by
  have hone : ∀ {a u}, Rel c I N β a u → a.one = true → u.oneCell' = true := by
    intro a u h h1
    cases h <;> simp_all [AV.one] <;> rfl
  refine ⟨rel_cells h ?_ ?_ ?_, ?_⟩
  · rintro rfl; simp [AV.ok, AV.one] at ho
  · rintro l rfl; simp [AV.ok, AV.one] at ho
  · rintro u rfl cs rfl; simp [AV.ok, AV.one, Value.oneCell'] at ho
  · cases h with
    | agg cs vs hn hv =>
      intro y hy
      obtain ⟨j, hj, rfl⟩ := List.getElem_of_mem hy
      have hj' : j < vs.size := by simpa [Value.cells] using hj
      simp only [AV.ok, List.all_eq_true] at ho
      have h1 := hv j (by omega)
      have h2 : cs.getD j .any = cs[j]'(by omega) := by simp [List.getD, show j < cs.length by omega]
      rw [h2] at h1
      have := hone h1 (ho _ (List.getElem_mem _))
      simpa [Array.getD, hj', Value.cells] using this
    | any => simp [AV.ok, AV.one] at ho
    | tup => simp [AV.ok, AV.one] at ho
    | sc v =>
      intro y hy
      cases v <;> simp_all [Value.cells, AV.ok, AV.one, Value.oneCell']
    | _ => intro y hy; simp [Value.cells] at hy; subst hy; rfl
end Go.Lg
