import Derived.Test.YtoeolgeidpjgbaaMk
set_option linter.unusedVariables false
namespace Go.Lg
open Go.RowKit
variable {P : Program}

/-! FACTS: calls that have been evaluated already -/
def eqI' (a b : Int) : Bool := match a, b with
  | .ofNat m, .ofNat n => Nat.beq m n
  | .negSucc m, .negSucc n => Nat.beq m n
  | _, _ => false
theorem eqI'_spec {a b : Int} (h : eqI' a b = true) : a = b := by
  unfold eqI' at h
  split at h
  · simp at h; rw [h]
  · simp at h; rw [h]
  · cases h
def eqVal (a b : Value) : Bool := match a, b with
  | .bool x, .bool y => (match x, y with
    | true, true => true
    | false, false => true
    | _, _ => false)
  | .int k m, .int k' n => kindEq k k' && eqI' m n
  | .string s, .string t => decide (s.data.toList = t.data.toList)
  | .slice none 0 0, .slice none 0 0 => true
  | .map none, .map none => true
  | .pointer none, .pointer none => true
  | .nilFunc, .nilFunc => true
  | .nilIface, .nilIface => true
  | .func (.func f) a b, .func (.func g) c d => Nat.beq f g && a.isEmpty && b.isEmpty && c.isEmpty && d.isEmpty
  | .tuple a, .tuple b => a.isEmpty && b.isEmpty
  | _, _ => false
theorem eqVal_spec {a b : Value} (h : eqVal a b = true) : a = b := by
  unfold eqVal at h
  split at h
  · split at h <;> first | rfl | cases h
  · simp only [Bool.and_eq_true] at h
    rw [kindEq_spec h.1, eqI'_spec h.2]
  · rename_i s t
    have h := of_decide_eq_true h
    obtain ⟨⟨s⟩⟩ := s
    obtain ⟨⟨t⟩⟩ := t
    simp at h; rw [h]
  · rfl
  · rfl
  · rfl
  · rfl
  · rfl
  · simp only [Bool.and_eq_true, Nat.beq_eq, Array.isEmpty_iff] at h
    obtain ⟨⟨⟨⟨rfl, rfl⟩, rfl⟩, rfl⟩, rfl⟩ := h
    rfl
  · simp only [Bool.and_eq_true, Array.isEmpty_iff] at h
    obtain ⟨rfl, rfl⟩ := h
    rfl
  · cases h
def eqL {α : Type} (f : α → α → Bool) : List α → List α → Bool
  | [], [] => true
  | x :: xs, y :: ys => (match f x y with
    | true => eqL f xs ys
    | false => false)
  | _, _ => false
theorem eqL_spec {α : Type} {f : α → α → Bool} (hf : ∀ x y, f x y = true → x = y) : ∀ {l m : List α}, eqL f l m = true → l = m
  | [], [], _ => rfl
  | x :: xs, y :: ys, h => by
    unfold eqL at h
    split at h
    · rename_i h1; rw [hf x y h1, eqL_spec hf h]
    · cases h
  | [], _ :: _, h => by cases h
  | _ :: _, [], h => by cases h
def eqFn (a b : Fn) : Bool := match a, b with
  | .func f, .func g => Nat.beq f g
  | a, b => decide (a = b)
theorem eqFn_spec {a b : Fn} (h : eqFn a b = true) : a = b := by
  unfold eqFn at h
  split at h
  · simp at h; rw [h]
  · exact of_decide_eq_true h
def eqA : Nat → AV → AV → Bool
  | 0, _, _ => false
  | d + 1, a, b => match a, b with
    | .any, .any => true
    | .sc v, .sc w => eqVal v w
    | .ptr r i j, .ptr r' i' j' => Nat.beq r r' && Nat.beq i i' && Nat.beq j j'
    | .sl r i j, .sl r' i' j' => Nat.beq r r' && Nat.beq i i' && Nat.beq j j'
    | .sub r i j s n, .sub r' i' j' s' n' => Nat.beq r r' && Nat.beq i i' && Nat.beq j j' && Nat.beq s s' && Nat.beq n n'
    | .isl s c, .isl s' c' => Nat.beq s s' && eqL (eqA d) c c'
    | .iptr c, .iptr c' => eqL (eqA d) c c'
    | .agg c, .agg c' => eqL (eqA d) c c'
    | .tup c, .tup c' => eqL (eqA d) c c'
    | .clo f a b, .clo f' a' b' => eqFn f f' && eqL (eqA d) a a' && eqL (eqA d) b b'
    | .yld r, .yld r' => Nat.beq r r'
    | .mp r, .mp r' => Nat.beq r r'
    | .sit r, .sit r' => Nat.beq r r'
    | .ifc t a, .ifc t' a' => Nat.beq t t' && eqA d a a'
    | _, _ => false
theorem eqA_spec : ∀ {d : Nat} {a b : AV}, eqA d a b = true → a = b
  | 0, a, b, h => by cases h
  | d + 1, a, b, h => by
    have ih : ∀ x y, eqA d x y = true → x = y := fun x y => eqA_spec
    unfold eqA at h
    split at h
    · rfl
    · rw [eqVal_spec h]
    · simp only [Bool.and_eq_true, Nat.beq_eq] at h; obtain ⟨⟨rfl, rfl⟩, rfl⟩ := h; rfl
    · simp only [Bool.and_eq_true, Nat.beq_eq] at h; obtain ⟨⟨rfl, rfl⟩, rfl⟩ := h; rfl
    · simp only [Bool.and_eq_true, Nat.beq_eq] at h; obtain ⟨⟨⟨⟨rfl, rfl⟩, rfl⟩, rfl⟩, rfl⟩ := h; rfl
    · simp only [Bool.and_eq_true, Nat.beq_eq] at h; rw [h.1, eqL_spec ih h.2]
    · rw [eqL_spec ih h]
    · rw [eqL_spec ih h]
    · rw [eqL_spec ih h]
    · simp only [Bool.and_eq_true] at h; rw [eqFn_spec h.1.1, eqL_spec ih h.1.2, eqL_spec ih h.2]
    · simp at h; rw [h]
    · simp at h; rw [h]
    · simp at h; rw [h]
    · simp only [Bool.and_eq_true, Nat.beq_eq] at h; rw [h.1, ih _ _ h.2]
    · cases h
def eqE (a b : Value × Nat × AV) : Bool := eqVK a.1 b.1 && Nat.beq a.2.1 b.2.1 && eqA 12 a.2.2 b.2.2
where
  eqVK (a b : Value) : Bool := match a, b with
    | .agg x, .agg y => eqL eqVal x.toList y.toList
    | a, b => eqVal a b
theorem eqVK_spec {a b : Value} (h : eqE.eqVK a b = true) : a = b := by
  unfold eqE.eqVK at h
  split at h
  · rename_i x y
    have := eqL_spec (fun x y => eqVal_spec) h
    rw [Array.ext' this]
  · exact eqVal_spec h
theorem eqE_spec {a b : Value × Nat × AV} (h : eqE a b = true) : a = b := by
  simp only [eqE, Bool.and_eq_true, Nat.beq_eq] at h
  obtain ⟨a1, a2, a3⟩ := a
  obtain ⟨b1, b2, b3⟩ := b
  simp only at h
  rw [eqVK_spec h.1.1, h.1.2, eqA_spec h.2]
def eqOb (a b : Option ObjA) : Bool := match a, b with
  | none, none => true
  | some (.map es n), some (.map es' n') => eqL eqE es es' && Nat.beq n n'
  | some (.siter s p), some (.siter t q) => decide (s.data.toList = t.data.toList) && Nat.beq p q
  | _, _ => false
theorem eqOb_spec {a b : Option ObjA} (h : eqOb a b = true) : a = b := by
  unfold eqOb at h
  split at h
  · rfl
  · simp only [Bool.and_eq_true, Nat.beq_eq] at h; rw [eqL_spec (fun x y => eqE_spec) h.1, h.2]
  · rename_i s p t q
    simp only [Bool.and_eq_true, Nat.beq_eq] at h
    have h1 := of_decide_eq_true h.1
    obtain ⟨⟨s⟩⟩ := s
    obtain ⟨⟨t⟩⟩ := t
    simp at h1; rw [h1, h.2]
  · cases h
def eqRt (a b : Option Root) : Bool := match a, b with
  | none, none => true
  | some x, some y => Nat.beq x.sz y.sz && eqL (eqA 12) x.els y.els && eqOb x.ob y.ob
  | _, _ => false
theorem eqRt_spec {a b : Option Root} (h : eqRt a b = true) : a = b := by
  unfold eqRt at h
  split at h
  · rfl
  · rename_i x y
    simp only [Bool.and_eq_true, Nat.beq_eq] at h
    obtain ⟨a1, a2, a3⟩ := x
    obtain ⟨b1, b2, b3⟩ := y
    simp only at h
    rw [h.1.1, eqL_spec (fun x y => eqA_spec) h.1.2, eqOb_spec h.2]
  · cases h
/-- the first rows are the same -/
noncomputable def eqRows (t t' : Tr (Option Root)) (d r : Nat) : Bool :=
  Nat.rec (motive := fun _ => Nat → Bool) (fun _ => true) (fun _ ih r => match eqRt (Tr.get none (path 3 r) t) (Tr.get none (path 3 r) t') with
    | true => ih (Nat.succ r)
    | false => false) d r
theorem eqRows_spec {t t' : Tr (Option Root)} : ∀ {d r : Nat}, eqRows t t' d r = true → ∀ k, r ≤ k → k < r + d → Tr.get none (path 3 k) t = Tr.get none (path 3 k) t'
  | 0, r, h, k, h1, h2 => by omega
  | d + 1, r, h, k, h1, h2 => by
    have h : (match eqRt (Tr.get none (path 3 r) t) (Tr.get none (path 3 r) t') with
      | true => eqRows t t' d (Nat.succ r)
      | false => false) = true := h
    split at h
    · rename_i hb
      by_cases e : k = r
      · subst e; exact eqRt_spec hb
      · exact eqRows_spec h k (by show r + 1 ≤ k; omega) (by show k < r + 1 + d; omega)
    · cases h
/-- a call, and what became of it -/
structure Fact where
  g : FuncId
  args : List AV
  n : Nat
  t : Tr (Option Root)
  v : AV
  n' : Nat
  lo' : Nat
  t' : Tr (Option Root)
structure FactOK (P : Program) (F : Fact) : Prop where
  hn : F.n ≤ F.n'
  hn' : F.n' ≤ 512
  same : ∀ r, r < F.n → r < F.lo' → Tr.get none (path 3 r) F.t' = Tr.get none (path 3 r) F.t
  does : DoesS P F.g F.args (⟨F.n, F.n, F.t⟩ : RowT).L (fun a ρ => a = F.v ∧ ρ = (⟨F.n', F.lo', F.t'⟩ : RowT).L)
theorem facts_nil : ∀ F ∈ ([] : List Fact), FactOK P F := fun F h => by cases h
theorem facts_cons {F : Fact} {T : List Fact} (h : FactOK P F) (t : ∀ F ∈ T, FactOK P F) : ∀ G ∈ F :: T, FactOK P G := fun G hG => by
  rcases List.mem_cons.1 hG with rfl | hG
  · exact h
  · exact t G hG
noncomputable def lookT (T : List Fact) (g : FuncId) (args : List AV) (X : RowT) : Option Fact :=
  List.rec (motive := fun _ => Option Fact) none (fun F _ ih => match Nat.beq F.g g with
    | true => (match Nat.beq F.n X.n && eqL (eqA 12) F.args args && eqRows F.t X.t F.n 0 with
      | true => some F
      | false => ih)
    | false => ih) T
theorem lookT_spec {g args X F} : ∀ {T : List Fact}, lookT T g args X = some F → F ∈ T ∧ F.g = g ∧ F.n = X.n ∧ F.args = args ∧ ∀ r, r < X.n → Tr.get none (path 3 r) F.t = Tr.get none (path 3 r) X.t
  | [], h => by cases h
  | F0 :: T, h => by
    have h : (match Nat.beq F0.g g with
      | true => (match Nat.beq F0.n X.n && eqL (eqA 12) F0.args args && eqRows F0.t X.t F0.n 0 with
        | true => some F0
        | false => lookT T g args X)
      | false => lookT T g args X) = some F := h
    split at h
    · rename_i hg
      split at h
      · rename_i hb
        cases h
        simp only [Bool.and_eq_true, Nat.beq_eq] at hb hg
        obtain ⟨⟨h1, h2⟩, h3⟩ := hb
        refine ⟨by simp, hg, h1, eqL_spec (fun x y => eqA_spec) h2, fun r hr => eqRows_spec h3 r (by omega) (by omega)⟩
      · obtain ⟨h1, h2⟩ := lookT_spec h
        exact ⟨by simp [h1], h2⟩
    · obtain ⟨h1, h2⟩ := lookT_spec h
      exact ⟨by simp [h1], h2⟩
noncomputable def callT (T : List Fact) (base : CallF) : CallF := fun E g args st X => match lookT T g args X with
  | some F => forceNat (minN X.lo F.lo') fun lo => some (.ret F.v, st, ⟨F.n', lo, F.t'⟩)
  | none => base E g args st X
theorem callT_sound {T : List Fact} {base : CallF} (hb : SoundC P base) (hT : ∀ F ∈ T, FactOK P F) : SoundC P (callT T base) := by
  intro E g args st X v st' X' hE h hX
  unfold callT at h
  split at h
  · rename_i F hF
    obtain ⟨h1, rfl, h3, rfl, h5⟩ := lookT_spec hF
    have ok := hT F h1
    rw [forceNat_eq] at h
    cases h
    refine ⟨⟨by show X.n ≤ F.n'; have := ok.hn; omega, by show minN X.lo F.lo' ≤ X.lo; rw [minN_eq]; omega, fun r h1 h2 => ?_, ok.hn'⟩, fun L hL => ?_⟩
    · have h2 : r < minN X.lo F.lo' := h2
      rw [minN_eq] at h2
      rw [← h5 r h1]
      exact ok.same r (by omega) (by omega)
    · have e : (⟨F.n, F.n, F.t⟩ : RowT).L = X.L := by
        apply List.ext_getElem
        · simp [RowT.L, h3]
        · intro i a b
          simp [RowT.L]
          exact h5 i (by simpa [RowT.L] using b)
      have := ok.does
      rw [e] at this
      show DoesG _ _ _ _ _ _ _
      refine this.toG.mono ?_
      rintro a s ρ ⟨rfl, rfl, rfl⟩
      exact ⟨rfl, rfl, rfl⟩
  · exact hb E g args st X v st' X' hE h hX

/-- the evaluator with facts -/
noncomputable def evF (P : Program) (T : List Fact) (n : Nat) : CallF × YieldF :=
  Nat.rec (motive := fun _ => CallF × YieldF) (fun _ _ _ _ _ => none, fun _ _ _ _ _ _ => none) (fun n ih => (callT T (evFun P ih.1 ih.2 n), evYield P ih.1 ih.2 n)) n
theorem evF_sound (hm : P.follows .mixedOrders = true) {T : List Fact} (hT : ∀ F ∈ T, FactOK P F) : ∀ n, SoundC P (evF P T n).1 ∧ SoundY P (evF P T n).2
  | 0 => ⟨fun E g args st X v st' X' _ h => (by cases h), fun E i x xs st X b st' X' _ h => (by cases h)⟩
  | n + 1 => by
    obtain ⟨hC, hY⟩ := evF_sound hm hT n
    exact ⟨callT_sound (evFun_sound hC hY hm n) hT, fun E i x xs st X b st' X' hE h hX hx => evYield_sound hC hY hm n E i x xs st X b st' X' hE h hX hx⟩

noncomputable def chkE (F : Fact) (r : Option (Res × List LS × RowT)) : Bool := match r with
  | some (.ret v, _, ⟨n, lo, t⟩) => Nat.beq n F.n' && Nat.beq lo F.lo' && eqA 12 v F.v && eqRows t F.t' n 0
  | _ => false
/-- a fact, by evaluation with other facts -/
noncomputable def chkF (P : Program) (T : List Fact) (k : Nat) (F : Fact) : Bool := Nat.ble F.n 512 && chkE F (evFun P (evF P T k).1 (evF P T k).2 k [] F.g F.args [] ⟨F.n, F.n, F.t⟩)
theorem chkF_ok (hm : P.follows .mixedOrders = true) {T : List Fact} (hT : ∀ F ∈ T, FactOK P F) {k : Nat} {F : Fact} (h : chkF P T k F = true) : FactOK P F := by
  unfold chkF at h
  simp only [Bool.and_eq_true, Nat.ble_eq] at h
  obtain ⟨hn, h⟩ := h
  unfold chkE at h
  split at h
  · rename_i v st n lo t hev
    simp only [Bool.and_eq_true, Nat.beq_eq] at h
    obtain ⟨⟨⟨rfl, rfl⟩, h3⟩, h4⟩ := h
    have h3 := eqA_spec h3
    have h4 := fun r (hr : r < F.n') => eqRows_spec h4 r (Nat.zero_le _) (by omega)
    obtain ⟨hg, hd⟩ := evFun_sound (evF_sound hm hT k).1 (evF_sound hm hT k).2 hm k [] F.g F.args [] _ _ _ _ (fun x hx => by simp at hx) hev hn
    have hd := (hd [] Emap.nil).ret.toS
    refine ⟨hg.le, hg.ok, fun r h1 h2 => ?_, ?_⟩
    · have := hg.same r h1 h2
      rw [← h4 r (Nat.lt_of_lt_of_le h1 hg.le)]; exact this
    · refine hd.mono ?_
      rintro a ρ ⟨s, h5, h6, h7⟩
      refine ⟨h5.trans h3, h7.trans ?_⟩
      apply List.ext_getElem
      · simp [RowT.L]
      · intro i a b
        simp [RowT.L]
        exact h4 i (by simpa [RowT.L] using b)
  · cases h
/-- a call that answers true, by facts -/
noncomputable def isTrueE (r : Option (Res × List LS × RowT)) : Bool := match r with
  | some (.ret (.sc (.bool true)), _, _) => true
  | _ => false
noncomputable def runTrueT (P : Program) (T : List Fact) (k : Nat) (f : FuncId) (args : List AV) : Bool := isTrueE (evFun P (evF P T k).1 (evF P T k).2 k [] f args [] ⟨0, 0, .nil⟩)
theorem runTrueT_does (hm : P.follows .mixedOrders = true) {T : List Fact} (hT : ∀ F ∈ T, FactOK P F) {k : Nat} {f : FuncId} {args : List AV} (h : runTrueT P T k f args = true) : Does P f false args (.sc (.bool true)) := by
  unfold runTrueT isTrueE at h
  split at h
  · rename_i st X hev
    obtain ⟨hg, hd⟩ := evFun_sound (evF_sound hm hT k).1 (evF_sound hm hT k).2 hm k [] f args [] _ _ _ _ (fun x hx => by simp at hx) hev (by simp)
    have hd := hd [] Emap.nil
    have hd : DoesG P [] f args [] [] (fun a s ρ => a = .sc (.bool true) ∧ s = st ∧ ρ = X.L) := hd
    exact hd.toDoes (.pure _ (.sc _))
  · cases h
end Go.Lg
