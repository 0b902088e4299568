import Derived.Test.YtfjfnpknlkonnaaMh
import Derived.Test.YtfjfnpknlkonnaaNaNbNc
import Derived.Test.YtfjfnpknlkonnaaLt5
set_option linter.unusedVariables false
namespace Go.Lg
open Go.RowKit
variable {P : Program}
def eqI' (a b : Int) : Bool := match a, b with
  | .ofNat m, .ofNat n => Nat.beq m n
  | .negSucc m, .negSucc n => Nat.beq m n
  | _, _ => false
theorem eqI'_spec {a b : Int} (h : eqI' a b = true) : a = b := by
  unfold eqI' at h
  split at h
  · simp at h; rw [h]
  · simp at h; rw [h]
  · cases h
def eqVal (a b : Value) : Bool := match a, b with
  | .bool x, .bool y => (match x, y with
    | true, true => true
    | false, false => true
    | _, _ => false)
  | .int k m, .int k' n => kindEq k k' && eqI' m n
  | .string s, .string t => decide (s.data.toList = t.data.toList)
  | .slice none 0 0, .slice none 0 0 => true
  | .map none, .map none => true
  | .pointer none, .pointer none => true
  | .nilFunc, .nilFunc => true
  | .nilIface, .nilIface => true
  | .func (.func f) a b, .func (.func g) c d => Nat.beq f g && a.isEmpty && b.isEmpty && c.isEmpty && d.isEmpty
  | .tuple a, .tuple b => a.isEmpty && b.isEmpty
  | _, _ => false
theorem eqVal_spec {a b : Value} (h : eqVal a b = true) : a = b := by
  unfold eqVal at h
  split at h
  · split at h <;> first | rfl | cases h
  · simp only [Bool.and_eq_true] at h
    rw [kindEq_spec h.1, eqI'_spec h.2]
  · rename_i s t
    have h := of_decide_eq_true h
    obtain ⟨⟨s⟩⟩ := s
    obtain ⟨⟨t⟩⟩ := t
    simp at h; rw [h]
  · rfl
  · rfl
  · rfl
  · rfl
  · rfl
  · simp only [Bool.and_eq_true, Nat.beq_eq, Array.isEmpty_iff] at h
    obtain ⟨⟨⟨⟨rfl, rfl⟩, rfl⟩, rfl⟩, rfl⟩ := h
    rfl
  · simp only [Bool.and_eq_true, Array.isEmpty_iff] at h
    obtain ⟨rfl, rfl⟩ := h
    rfl
  · cases h
def eqL {α : Type} (f : α → α → Bool) : List α → List α → Bool
  | [], [] => true
  | x :: xs, y :: ys => (match f x y with
    | true => eqL f xs ys
    | false => false)
  | _, _ => false
theorem eqL_spec {α : Type} {f : α → α → Bool} (hf : ∀ x y, f x y = true → x = y) : ∀ {l m : List α}, eqL f l m = true → l = m
  | [], [], _ => rfl
  | x :: xs, y :: ys, h => by
    unfold eqL at h
    split at h
    · rename_i h1; rw [hf x y h1, eqL_spec hf h]
    · cases h
  | [], _ :: _, h => by cases h
  | _ :: _, [], h => by cases h
def eqFn (a b : Fn) : Bool := match a, b with
  | .func f, .func g => Nat.beq f g
  | a, b => decide (a = b)
theorem eqFn_spec {a b : Fn} (h : eqFn a b = true) : a = b := by
  unfold eqFn at h
  split at h
  · simp at h; rw [h]
  · exact of_decide_eq_true h
def eqA : Nat → AV → AV → Bool
  | 0, _, _ => false
  | d + 1, a, b => match a, b with
    | .any, .any => true
    | .sc v, .sc w => eqVal v w
    | .ptr r i j, .ptr r' i' j' => Nat.beq r r' && Nat.beq i i' && Nat.beq j j'
    | .sl r i j, .sl r' i' j' => Nat.beq r r' && Nat.beq i i' && Nat.beq j j'
    | .sub r i j s n, .sub r' i' j' s' n' => Nat.beq r r' && Nat.beq i i' && Nat.beq j j' && Nat.beq s s' && Nat.beq n n'
    | .isl s c, .isl s' c' => Nat.beq s s' && eqL (eqA d) c c'
    | .iptr c, .iptr c' => eqL (eqA d) c c'
    | .agg c, .agg c' => eqL (eqA d) c c'
    | .tup c, .tup c' => eqL (eqA d) c c'
    | .clo f a b, .clo f' a' b' => eqFn f f' && eqL (eqA d) a a' && eqL (eqA d) b b'
    | .yld r, .yld r' => Nat.beq r r'
    | .mp r, .mp r' => Nat.beq r r'
    | .sit r, .sit r' => Nat.beq r r'
    | .ifc t a, .ifc t' a' => Nat.beq t t' && eqA d a a'
    | _, _ => false
theorem eqA_spec : ∀ {d : Nat} {a b : AV}, eqA d a b = true → a = b
  | 0, a, b, h => by cases h
  | d + 1, a, b, h => by
    have ih : ∀ x y, eqA d x y = true → x = y := fun x y => eqA_spec
    unfold eqA at h
    split at h
    · rfl
    · rw [eqVal_spec h]
    · simp only [Bool.and_eq_true, Nat.beq_eq] at h; obtain ⟨⟨rfl, rfl⟩, rfl⟩ := h; rfl
    · simp only [Bool.and_eq_true, Nat.beq_eq] at h; obtain ⟨⟨rfl, rfl⟩, rfl⟩ := h; rfl
    · simp only [Bool.and_eq_true, Nat.beq_eq] at h; obtain ⟨⟨⟨⟨rfl, rfl⟩, rfl⟩, rfl⟩, rfl⟩ := h; rfl
    · simp only [Bool.and_eq_true, Nat.beq_eq] at h; rw [h.1, eqL_spec ih h.2]
    · rw [eqL_spec ih h]
    · rw [eqL_spec ih h]
    · rw [eqL_spec ih h]
    · simp only [Bool.and_eq_true] at h; rw [eqFn_spec h.1.1, eqL_spec ih h.1.2, eqL_spec ih h.2]
    · simp at h; rw [h]
    · simp at h; rw [h]
    · simp at h; rw [h]
    · simp only [Bool.and_eq_true, Nat.beq_eq] at h; rw [h.1, ih _ _ h.2]
    · cases h
def eqE (a b : Value × Nat × AV) : Bool := eqVK a.1 b.1 && Nat.beq a.2.1 b.2.1 && eqA 12 a.2.2 b.2.2
where
  eqVK (a b : Value) : Bool := match a, b with
    | .agg x, .agg y => eqL eqVal x.toList y.toList
    | a, b => eqVal a b
theorem eqVK_spec {a b : Value} (h : eqE.eqVK a b = true) : a = b := by
  unfold eqE.eqVK at h
  split at h
  · rename_i x y
    have := eqL_spec (fun x y => eqVal_spec) h
    rw [Array.ext' this]
  · exact eqVal_spec h
theorem eqE_spec {a b : Value × Nat × AV} (h : eqE a b = true) : a = b := by
  simp only [eqE, Bool.and_eq_true, Nat.beq_eq] at h
  obtain ⟨a1, a2, a3⟩ := a
  obtain ⟨b1, b2, b3⟩ := b
  simp only at h
  rw [eqVK_spec h.1.1, h.1.2, eqA_spec h.2]
def eqOb (a b : Option ObjA) : Bool := match a, b with
  | none, none => true
  | some (.map es n), some (.map es' n') => eqL eqE es es' && Nat.beq n n'
  | some (.siter s p), some (.siter t q) => decide (s.data.toList = t.data.toList) && Nat.beq p q
  | _, _ => false
theorem eqOb_spec {a b : Option ObjA} (h : eqOb a b = true) : a = b := by
  unfold eqOb at h
  split at h
  · rfl
  · simp only [Bool.and_eq_true, Nat.beq_eq] at h; rw [eqL_spec (fun x y => eqE_spec) h.1, h.2]
  · rename_i s p t q
    simp only [Bool.and_eq_true, Nat.beq_eq] at h
    have h1 := of_decide_eq_true h.1
    obtain ⟨⟨s⟩⟩ := s
    obtain ⟨⟨t⟩⟩ := t
    simp at h1; rw [h1, h.2]
  · cases h
def eqRt (a b : Option Root) : Bool := match a, b with
  | none, none => true
  | some x, some y => Nat.beq x.sz y.sz && eqL (eqA 12) x.els y.els && eqOb x.ob y.ob
  | _, _ => false
theorem eqRt_spec {a b : Option Root} (h : eqRt a b = true) : a = b := by
  unfold eqRt at h
  split at h
  · rfl
  · rename_i x y
    simp only [Bool.and_eq_true, Nat.beq_eq] at h
    obtain ⟨a1, a2, a3⟩ := x
    obtain ⟨b1, b2, b3⟩ := y
    simp only at h
    rw [h.1.1, eqL_spec (fun x y => eqA_spec) h.1.2, eqOb_spec h.2]
  · cases h
noncomputable def eqRows (t t' : Tr (Option Root)) (d r : Nat) : Bool :=
  Nat.rec (motive := fun _ => Nat → Bool) (fun _ => true) (fun _ ih r => match eqRt (Tr.get none (path 3 r) t) (Tr.get none (path 3 r) t') with
    | true => ih (Nat.succ r)
    | false => false) d r
theorem eqRows_spec {t t' : Tr (Option Root)} : ∀ {d r : Nat}, eqRows t t' d r = true → ∀ k, r ≤ k → k < r + d → Tr.get none (path 3 k) t = Tr.get none (path 3 k) t'
  | 0, r, h, k, h1, h2 => by omega
  | d + 1, r, h, k, h1, h2 => by
    have h : (match eqRt (Tr.get none (path 3 r) t) (Tr.get none (path 3 r) t') with
      | true => eqRows t t' d (Nat.succ r)
      | false => false) = true := h
    split at h
    · rename_i hb
      by_cases e : k = r
      · subst e; exact eqRt_spec hb
      · exact eqRows_spec h k (by show r + 1 ≤ k; omega) (by show k < r + 1 + d; omega)
    · cases h
end Go.Lg
