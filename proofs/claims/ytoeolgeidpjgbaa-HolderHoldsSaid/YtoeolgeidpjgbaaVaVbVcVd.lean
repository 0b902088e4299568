import Derived.ProofKit
import Derived.Test.YtoeolgeidpjgbaaProg
import Derived.Test.YtoeolgeidpjgbaaWjWkWlWm
set_option linter.unusedVariables false
namespace Go.Proofs.Ytoeolgeidpjgbaa
open Go Go.Lg
noncomputable def mkF (n : Nat) (l : List (Nat × SV)) : FS := List.rec (motive := fun _ => FS) .nil (fun p _ ih => sset n ih p.1 p.2) l
theorem mixed : Try.prog.follows .mixedOrders = true := by kernel_rfl
noncomputable def isFromG (n a b : Int) : Prop := funS Try.prog (ctrs []) (fun _ => none) 40 [.int .i64 n, .int .i64 a, .int .i64 b] (.dec (a ≤ n ∧ n ≤ b) inferInstance)
noncomputable def inG (n a b : Int) : Prop := funS Try.prog (ctrs []) (fun _ => none) 43 [.int .i64 n, .int .i64 a, .int .i64 b] (.dec (a ≤ n ∧ n ≤ b) inferInstance)
noncomputable def vspanG (x y a b : Int) : Prop := funS Try.prog (ctrs []) (fun _ => none) 46 [.agg [.int .i64 x, .int .i64 y], .int .i64 a, .int .i64 b] (.dec (a ≤ x ∧ x ≤ y ∧ y ≤ b) inferInstance)
noncomputable def spanG (x y a b : Int) : Prop := funS Try.prog (ctrs []) (fun _ => none) 48 [.agg [.int .i64 x, .int .i64 y], .int .i64 a, .int .i64 b] (.dec (a ≤ x ∧ x ≤ y ∧ y ≤ b) inferInstance)
end Go.Proofs.Ytoeolgeidpjgbaa

set_option linter.unusedVariables false
namespace Go.Proofs.Ytoeolgeidpjgbaa
open Go Go.Lg
theorem lit1 : ((0 : Nat) < nat_lit 1) = True := eq_true Nat.one_pos
theorem isFrom_vc (n a b : Int) : isFromG n a b = ((a ≤ n → (n ≤ b ↔ a ≤ n ∧ n ≤ b) ∧ True) ∧ (¬a ≤ n → (false = true ↔ a ≤ n ∧ n ≤ b) ∧ True)) := by kernel_rfl
theorem in_vc (n a b : Int) : inG n a b = ((a ≤ n → (n ≤ b ↔ a ≤ n ∧ n ≤ b) ∧ True) ∧ (¬a ≤ n → (false = true ↔ a ≤ n ∧ n ≤ b) ∧ True)) := by kernel_rfl
theorem vspan_vc (x y a b : Int) : vspanG x y a b = ((0 : Nat) < nat_lit 1 ∧
  (a ≤ x →
      (0 : Nat) < nat_lit 1 ∧
        (0 : Nat) < nat_lit 1 ∧
          (x ≤ y → (0 : Nat) < nat_lit 1 ∧ (y ≤ b ↔ a ≤ x ∧ x ≤ y ∧ y ≤ b) ∧ True) ∧
            (¬x ≤ y → (false = true ↔ a ≤ x ∧ x ≤ y ∧ y ≤ b) ∧ True)) ∧
    (¬a ≤ x → (false = true ↔ a ≤ x ∧ x ≤ y ∧ y ≤ b) ∧ True)) := by kernel_rfl
theorem span_vc (x y a b : Int) : spanG x y a b = ((0 : Nat) < nat_lit 1 ∧
  (a ≤ x →
      (0 : Nat) < nat_lit 1 ∧
        (0 : Nat) < nat_lit 1 ∧
          (x ≤ y → (0 : Nat) < nat_lit 1 ∧ (y ≤ b ↔ a ≤ x ∧ x ≤ y ∧ y ≤ b) ∧ True) ∧
            (¬x ≤ y → (false = true ↔ a ≤ x ∧ x ≤ y ∧ y ≤ b) ∧ True)) ∧
    (¬a ≤ x → (false = true ↔ a ≤ x ∧ x ≤ y ∧ y ≤ b) ∧ True)) := by kernel_rfl
def fromC (f : FuncId) : Ctr := ⟨f, fun args k => match args with
  | [.int .i64 n, .int .i64 a, .int .i64 b] => k (.dec (a ≤ n ∧ n ≤ b) inferInstance)
  | _ => False⟩
def spanC (f : FuncId) : Ctr := ⟨f, fun args k => match args with
  | [.agg [.int .i64 x, .int .i64 y], .int .i64 a, .int .i64 b] => k (.dec (a ≤ x ∧ x ≤ y ∧ y ≤ b) inferInstance)
  | _ => False⟩
theorem isFrom_ok : (fromC 40).Ok Try.prog := by
  refine ⟨by kernel_rfl, fun args k h => ?_⟩
  simp only [fromC] at h
  split at h
  · rename_i n a b
    refine ⟨.dec (a ≤ n ∧ n ≤ b) inferInstance, Does.plain (funS_does (cs := ctrs []) (sp := fun _ => none) (args := [.int .i64 n, .int .i64 a, .int .i64 b]) (ctrs_sound (by simp)) mixed ?_) trivial, h⟩
    show isFromG n a b
    rw [isFrom_vc]
    exact ⟨fun h => by simp [h], fun h => by simp [h]⟩
  · exact h.elim
theorem in_ok : (fromC 43).Ok Try.prog := by
  refine ⟨by kernel_rfl, fun args k h => ?_⟩
  simp only [fromC] at h
  split at h
  · rename_i n a b
    refine ⟨.dec (a ≤ n ∧ n ≤ b) inferInstance, Does.plain (funS_does (cs := ctrs []) (sp := fun _ => none) (args := [.int .i64 n, .int .i64 a, .int .i64 b]) (ctrs_sound (by simp)) mixed ?_) trivial, h⟩
    show inG n a b
    rw [in_vc]
    exact ⟨fun h => by simp [h], fun h => by simp [h]⟩
  · exact h.elim
theorem vspan_ok : (spanC 46).Ok Try.prog := by
  refine ⟨by kernel_rfl, fun args k h => ?_⟩
  simp only [spanC] at h
  split at h
  · rename_i x y a b
    refine ⟨.dec (a ≤ x ∧ x ≤ y ∧ y ≤ b) inferInstance, Does.plain (funS_does (cs := ctrs []) (sp := fun _ => none) (args := [.agg [.int .i64 x, .int .i64 y], .int .i64 a, .int .i64 b]) (ctrs_sound (by simp)) mixed ?_) trivial, h⟩
    show vspanG x y a b
    rw [vspan_vc]
    simp only [lit1, true_and, and_true]
    exact ⟨fun h => ⟨fun h' => by simp [h, h'], fun h' => by simp [h']⟩, fun h => by simp [h]⟩
  · exact h.elim
theorem span_ok : (spanC 48).Ok Try.prog := by
  refine ⟨by kernel_rfl, fun args k h => ?_⟩
  simp only [spanC] at h
  split at h
  · rename_i x y a b
    refine ⟨.dec (a ≤ x ∧ x ≤ y ∧ y ≤ b) inferInstance, Does.plain (funS_does (cs := ctrs []) (sp := fun _ => none) (args := [.agg [.int .i64 x, .int .i64 y], .int .i64 a, .int .i64 b]) (ctrs_sound (by simp)) mixed ?_) trivial, h⟩
    show spanG x y a b
    rw [span_vc]
    simp only [lit1, true_and, and_true]
    exact ⟨fun h => ⟨fun h' => by simp [h, h'], fun h' => by simp [h']⟩, fun h => by simp [h]⟩
  · exact h.elim

/-! lifts -/
def lifts (n : Nat) (A R : Nat → Int) : SV := .lst 2 n fun i => .agg [.int .i64 (A i), .int .i64 (R i)]
def okL (a r : Int) : Prop := (1 ≤ a ∧ a ≤ 100000) ∧ (1 ≤ r ∧ r ≤ 100)
def vL (n : Nat) (A R : Nat → Int) : Prop := (1 ≤ (n : Int) ∧ (n : Int) ≤ 4) ∧ ∀ i, i < n → okL (A i) (R i)
theorem rdI {m i : Nat} (t : FS) (X : XS) (k : Nat → Prop) (h : (match sget m t i with
    | .int _ z => k z.toNat
    | _ => False)) : ∃ s, k s := by
  split at h
  · exact ⟨_, h⟩
  · exact h.elim
/-- a loop that counts: its frame's size, the slot of the number, the frame at the head -/
noncomputable def cntS (n m slot : Nat) (inv : Nat → Prop) (t : Nat → FS) : LSpec where
  σ := Nat
  inv := inv
  μ := fun i => n - i
  nr := 0
  ms := fun _ _ => []
  t := t
  X := fun _ => ⟨0, .nil⟩
  rd := fun t X k => match sget m t slot with
    | .int _ z => k z.toNat
    | _ => False
  rdOK := rdI
noncomputable def one (s : LSpec) : Nat → Option LSpec := fun i => match i with
  | 0 => some s
  | _ => none
noncomputable def csA : CSpec := ctrs [fromC 40, fromC 43]
noncomputable def validG (n : Nat) (A R : Nat → Int) : Prop :=
  funS Try.prog csA (one (cntS n 26 11 (fun i => i ≤ n ∧ ∀ j, j < i → okL (A j) (R j)) fun i => mkF 26 [(2, .bool false), (9, lifts n A R), (10, .int .i64 n), (11, .int .i64 i)])) 39 [lifts n A R] (.dec (vL n A R) (Classical.propDecidable _))
noncomputable def liftsG (n : Nat) (A R : Nat → Int) : Prop :=
  funS Try.prog csA (one (cntS n 33 3 (fun i => i ≤ n ∧ ∀ j, j < i → okL (A j) (R j)) fun i => mkF 33 [(0, lifts n A R), (2, .bool false), (3, .int .i64 i)])) 38 [lifts n A R] (.dec (vL n A R) (Classical.propDecidable _))
noncomputable def topG (n : Nat) (A R S : Nat → Int) : Prop :=
  funS Try.prog csA (one (cntS n 18 8 (fun i => i ≤ n) fun i => mkF 18 [(3, .int .i64 (S i)), (6, lifts n A R), (7, .int .i64 n), (8, .int .i64 i)])) 41 [lifts n A R] (.int .i64 (S n))
noncomputable def topG' (n : Nat) (A R S : Nat → Int) : Prop :=
  funS Try.prog csA (one (cntS n 19 4 (fun i => i ≤ n) fun i => mkF 19 [(0, lifts n A R), (3, .int .i64 (S i)), (4, .int .i64 i)])) 44 [lifts n A R] (.int .i64 (S n))
noncomputable def volG (n : Nat) (A R V H : Nat → Int) (h : Int) : Prop :=
  funS Try.prog csA (one (cntS n 30 11 (fun i => i ≤ n) fun i => mkF 30 [(1, .int .i64 (H i)), (5, .int .i64 (V i)), (9, lifts n A R), (10, .int .i64 n), (11, .int .i64 i)])) 42 [lifts n A R, .int .i64 h] (.int .i64 (V n))
noncomputable def volG' (n : Nat) (A R V H : Nat → Int) (h : Int) : Prop :=
  funS Try.prog csA (one (cntS n 34 6 (fun i => i ≤ n) fun i => mkF 34 [(0, lifts n A R), (1, .int .i64 (H i)), (5, .int .i64 (V i)), (6, .int .i64 i)])) 45 [lifts n A R, .int .i64 h] (.int .i64 (V n))
end Go.Proofs.Ytoeolgeidpjgbaa

set_option linter.unusedVariables false
namespace Go.Proofs.Ytoeolgeidpjgbaa
open Go Go.Lg
theorem validG_vc (n : Nat) (A R : Nat → Int) : validG n A R =
  ((¬((1 : Int) ≤ (↑n : Int) ∧ (↑n : Int) ≤ (4 : Int)) →
    (false = true ↔ ((1 : Int) ≤ (↑n : Int) ∧ (↑n : Int) ≤ (4 : Int)) ∧ ∀ (i : Nat), i < n → okL (A i) (R i)) ∧ True) ∧
  (¬¬((1 : Int) ≤ (↑n : Int) ∧ (↑n : Int) ≤ (4 : Int)) →
    ((Int.toNat (0 : Int) ≤ n ∧
          ∀ (j : Nat),
            j < Int.toNat (0 : Int) → ((1 : Int) ≤ A j ∧ A j ≤ (100000 : Int)) ∧ (1 : Int) ≤ R j ∧ R j ≤ (100 : Int)) ∧
        false = false ∧
          n = n ∧
            (∀ (i : Nat),
                i < n →
                  ((fun i => SV.agg [SV.int IntKind.i64 (A i), SV.int IntKind.i64 (R i)]) i).den =
                      ((fun i => SV.agg [SV.int IntKind.i64 (A i), SV.int IntKind.i64 (R i)]) i).den ∧
                    True ∧ True ∧ True) ∧
              (↑n : Int) = (↑n : Int) ∧ (0 : Int) = (↑(Int.toNat (0 : Int)) : Int) ∧ True) ∧
      ∀ (z : Nat),
        (z ≤ n ∧ ∀ (j : Nat), j < z → ((1 : Int) ≤ A j ∧ A j ≤ (100000 : Int)) ∧ (1 : Int) ≤ R j ∧ R j ≤ (100 : Int)) →
          ((↑z : Int) < (↑n : Int) →
              (0 : Int) ≤ (↑z : Int) ∧
                (↑z : Int) < (↑n : Int) ∧
                  (0 : Nat) < nat_lit 1 ∧
                    (¬((1 : Int) ≤ A (↑z : Int).toNat ∧ A (↑z : Int).toNat ≤ (100000 : Int)) →
                        (false = true ↔
                            ((1 : Int) ≤ (↑n : Int) ∧ (↑n : Int) ≤ (4 : Int)) ∧ ∀ (i : Nat), i < n → okL (A i) (R i)) ∧
                          True) ∧
                      (¬¬((1 : Int) ≤ A (↑z : Int).toNat ∧ A (↑z : Int).toNat ≤ (100000 : Int)) →
                        (0 : Nat) < nat_lit 1 ∧
                          (¬((1 : Int) ≤ R (↑z : Int).toNat ∧ R (↑z : Int).toNat ≤ (100 : Int)) →
                              (false = true ↔
                                  ((1 : Int) ≤ (↑n : Int) ∧ (↑n : Int) ≤ (4 : Int)) ∧
                                    ∀ (i : Nat), i < n → okL (A i) (R i)) ∧
                                True) ∧
                            (¬¬((1 : Int) ≤ R (↑z : Int).toNat ∧ R (↑z : Int).toNat ≤ (100 : Int)) →
                              ((-9223372036854775808 : Int) ≤ (↑z : Int) + (1 : Int) ∧
                                  (↑z : Int) + (1 : Int) ≤ (9223372036854775807 : Int)) ∧
                                (((↑z : Int) + (1 : Int)).toNat ≤ n ∧
                                    ∀ (j : Nat),
                                      j < ((↑z : Int) + (1 : Int)).toNat →
                                        ((1 : Int) ≤ A j ∧ A j ≤ (100000 : Int)) ∧
                                          (1 : Int) ≤ R j ∧ R j ≤ (100 : Int)) ∧
                                  n - ((↑z : Int) + (1 : Int)).toNat < n - z ∧
                                    false = false ∧
                                      n = n ∧
                                        (∀ (i : Nat),
                                            i < n →
                                              ((fun i => SV.agg [SV.int IntKind.i64 (A i), SV.int IntKind.i64 (R i)])
                                                      i).den =
                                                  ((fun i =>
                                                        SV.agg [SV.int IntKind.i64 (A i), SV.int IntKind.i64 (R i)])
                                                      i).den ∧
                                                True ∧ True ∧ True) ∧
                                          (↑n : Int) = (↑n : Int) ∧
                                            (↑z : Int) + (1 : Int) = (↑((↑z : Int) + (1 : Int)).toNat : Int) ∧ True))) ∧
            (¬(↑z : Int) < (↑n : Int) →
              (true = true ↔ ((1 : Int) ≤ (↑n : Int) ∧ (↑n : Int) ≤ (4 : Int)) ∧ ∀ (i : Nat), i < n → okL (A i) (R i)) ∧
                True))) := by kernel_rfl
theorem liftsG_vc (n : Nat) (A R : Nat → Int) : liftsG n A R =
  (((Int.toNat (0 : Int) ≤ n ∧
      ∀ (j : Nat),
        j < Int.toNat (0 : Int) → ((1 : Int) ≤ A j ∧ A j ≤ (100000 : Int)) ∧ (1 : Int) ≤ R j ∧ R j ≤ (100 : Int)) ∧
    n = n ∧
      (∀ (i : Nat),
          i < n →
            ((fun i => SV.agg [SV.int IntKind.i64 (A i), SV.int IntKind.i64 (R i)]) i).den =
                ((fun i => SV.agg [SV.int IntKind.i64 (A i), SV.int IntKind.i64 (R i)]) i).den ∧
              True ∧ True ∧ True) ∧
        false = false ∧ (0 : Int) = (↑(Int.toNat (0 : Int)) : Int) ∧ True) ∧
  ∀ (z : Nat),
    (z ≤ n ∧ ∀ (j : Nat), j < z → ((1 : Int) ≤ A j ∧ A j ≤ (100000 : Int)) ∧ (1 : Int) ≤ R j ∧ R j ≤ (100 : Int)) →
      ((↑z : Int) < (↑n : Int) →
          ((↑z : Int) < (4 : Int) →
              (0 : Int) ≤ (↑z : Int) ∧
                (↑z : Int) < (↑n : Int) ∧
                  (¬((1 : Int) ≤ A (↑z : Int).toNat ∧ A (↑z : Int).toNat ≤ (100000 : Int)) →
                      (false = true ↔
                          ((1 : Int) ≤ (↑n : Int) ∧ (↑n : Int) ≤ (4 : Int)) ∧ ∀ (i : Nat), i < n → okL (A i) (R i)) ∧
                        True) ∧
                    (¬¬((1 : Int) ≤ A (↑z : Int).toNat ∧ A (↑z : Int).toNat ≤ (100000 : Int)) →
                      (0 : Int) ≤ (↑z : Int) ∧
                        (↑z : Int) < (↑n : Int) ∧
                          (¬((1 : Int) ≤ R (↑z : Int).toNat ∧ R (↑z : Int).toNat ≤ (100 : Int)) →
                              (false = true ↔
                                  ((1 : Int) ≤ (↑n : Int) ∧ (↑n : Int) ≤ (4 : Int)) ∧
                                    ∀ (i : Nat), i < n → okL (A i) (R i)) ∧
                                True) ∧
                            (¬¬((1 : Int) ≤ R (↑z : Int).toNat ∧ R (↑z : Int).toNat ≤ (100 : Int)) →
                              ((-9223372036854775808 : Int) ≤ (↑z : Int) + (1 : Int) ∧
                                  (↑z : Int) + (1 : Int) ≤ (9223372036854775807 : Int)) ∧
                                (((↑z : Int) + (1 : Int)).toNat ≤ n ∧
                                    ∀ (j : Nat),
                                      j < ((↑z : Int) + (1 : Int)).toNat →
                                        ((1 : Int) ≤ A j ∧ A j ≤ (100000 : Int)) ∧
                                          (1 : Int) ≤ R j ∧ R j ≤ (100 : Int)) ∧
                                  n - ((↑z : Int) + (1 : Int)).toNat < n - z ∧
                                    n = n ∧
                                      (∀ (i : Nat),
                                          i < n →
                                            ((fun i => SV.agg [SV.int IntKind.i64 (A i), SV.int IntKind.i64 (R i)])
                                                    i).den =
                                                ((fun i => SV.agg [SV.int IntKind.i64 (A i), SV.int IntKind.i64 (R i)])
                                                    i).den ∧
                                              True ∧ True ∧ True) ∧
                                        false = false ∧
                                          (↑z : Int) + (1 : Int) = (↑((↑z : Int) + (1 : Int)).toNat : Int) ∧ True))) ∧
            (¬(↑z : Int) < (4 : Int) →
              ((1 : Int) ≤ (↑n : Int) ∧ (↑n : Int) ≤ (4 : Int) ↔
                  ((1 : Int) ≤ (↑n : Int) ∧ (↑n : Int) ≤ (4 : Int)) ∧ ∀ (i : Nat), i < n → okL (A i) (R i)) ∧
                True)) ∧
        (¬(↑z : Int) < (↑n : Int) →
          ((1 : Int) ≤ (↑n : Int) ∧ (↑n : Int) ≤ (4 : Int) ↔
              ((1 : Int) ≤ (↑n : Int) ∧ (↑n : Int) ≤ (4 : Int)) ∧ ∀ (i : Nat), i < n → okL (A i) (R i)) ∧
            True)) := by kernel_rfl
theorem topG_vc (n : Nat) (A R S : Nat → Int) : topG n A R S =
  (((Int.toNat (0 : Int)).le n ∧
    (0 : Int) = S (Int.toNat (0 : Int)) ∧
      n = n ∧
        (∀ (i : Nat),
            i < n →
              ((fun i => SV.agg [SV.int IntKind.i64 (A i), SV.int IntKind.i64 (R i)]) i).den =
                  ((fun i => SV.agg [SV.int IntKind.i64 (A i), SV.int IntKind.i64 (R i)]) i).den ∧
                True ∧ True ∧ True) ∧
          (↑n : Int) = (↑n : Int) ∧ (0 : Int) = (↑(Int.toNat (0 : Int)) : Int) ∧ True) ∧
  ∀ (z : Nat),
    z.le n →
      ((↑z : Int) < (↑n : Int) →
          (0 : Int) ≤ (↑z : Int) ∧
            (↑z : Int) < (↑n : Int) ∧
              (0 : Nat) < nat_lit 1 ∧
                ((-9223372036854775808 : Int) ≤ S z + R (↑z : Int).toNat ∧
                    S z + R (↑z : Int).toNat ≤ (9223372036854775807 : Int)) ∧
                  ((-9223372036854775808 : Int) ≤ (↑z : Int) + (1 : Int) ∧
                      (↑z : Int) + (1 : Int) ≤ (9223372036854775807 : Int)) ∧
                    ((↑z : Int) + (1 : Int)).toNat.le n ∧
                      n - ((↑z : Int) + (1 : Int)).toNat < n - z ∧
                        S z + R (↑z : Int).toNat = S ((↑z : Int) + (1 : Int)).toNat ∧
                          n = n ∧
                            (∀ (i : Nat),
                                i < n →
                                  ((fun i => SV.agg [SV.int IntKind.i64 (A i), SV.int IntKind.i64 (R i)]) i).den =
                                      ((fun i => SV.agg [SV.int IntKind.i64 (A i), SV.int IntKind.i64 (R i)]) i).den ∧
                                    True ∧ True ∧ True) ∧
                              (↑n : Int) = (↑n : Int) ∧
                                (↑z : Int) + (1 : Int) = (↑((↑z : Int) + (1 : Int)).toNat : Int) ∧ True) ∧
        (¬(↑z : Int) < (↑n : Int) → S z = S n ∧ True)) := by kernel_rfl
theorem topG2_vc (n : Nat) (A R S : Nat → Int) : topG' n A R S =
  (((Int.toNat (0 : Int)).le n ∧
    n = n ∧
      (∀ (i : Nat),
          i < n →
            ((fun i => SV.agg [SV.int IntKind.i64 (A i), SV.int IntKind.i64 (R i)]) i).den =
                ((fun i => SV.agg [SV.int IntKind.i64 (A i), SV.int IntKind.i64 (R i)]) i).den ∧
              True ∧ True ∧ True) ∧
        (0 : Int) = S (Int.toNat (0 : Int)) ∧ (0 : Int) = (↑(Int.toNat (0 : Int)) : Int) ∧ True) ∧
  ∀ (z : Nat),
    z.le n →
      ((↑z : Int) < (↑n : Int) →
          (0 : Int) ≤ (↑z : Int) ∧
            (↑z : Int) < (↑n : Int) ∧
              ((-9223372036854775808 : Int) ≤ S z + R (↑z : Int).toNat ∧
                  S z + R (↑z : Int).toNat ≤ (9223372036854775807 : Int)) ∧
                ((-9223372036854775808 : Int) ≤ (↑z : Int) + (1 : Int) ∧
                    (↑z : Int) + (1 : Int) ≤ (9223372036854775807 : Int)) ∧
                  ((↑z : Int) + (1 : Int)).toNat.le n ∧
                    n - ((↑z : Int) + (1 : Int)).toNat < n - z ∧
                      n = n ∧
                        (∀ (i : Nat),
                            i < n →
                              ((fun i => SV.agg [SV.int IntKind.i64 (A i), SV.int IntKind.i64 (R i)]) i).den =
                                  ((fun i => SV.agg [SV.int IntKind.i64 (A i), SV.int IntKind.i64 (R i)]) i).den ∧
                                True ∧ True ∧ True) ∧
                          S z + R (↑z : Int).toNat = S ((↑z : Int) + (1 : Int)).toNat ∧
                            (↑z : Int) + (1 : Int) = (↑((↑z : Int) + (1 : Int)).toNat : Int) ∧ True) ∧
        (¬(↑z : Int) < (↑n : Int) → S z = S n ∧ True)) := by kernel_rfl
theorem volG_vc (n : Nat) (A R V H : Nat → Int) (h : Int) : volG n A R V H h =
  (((Int.toNat (0 : Int)).le n ∧
    h = H (Int.toNat (0 : Int)) ∧
      (0 : Int) = V (Int.toNat (0 : Int)) ∧
        n = n ∧
          (∀ (i : Nat),
              i < n →
                ((fun i => SV.agg [SV.int IntKind.i64 (A i), SV.int IntKind.i64 (R i)]) i).den =
                    ((fun i => SV.agg [SV.int IntKind.i64 (A i), SV.int IntKind.i64 (R i)]) i).den ∧
                  True ∧ True ∧ True) ∧
            (↑n : Int) = (↑n : Int) ∧ (0 : Int) = (↑(Int.toNat (0 : Int)) : Int) ∧ True) ∧
  ∀ (z : Nat),
    z.le n →
      ((↑z : Int) < (↑n : Int) →
          (0 : Int) ≤ (↑z : Int) ∧
            (↑z : Int) < (↑n : Int) ∧
              (0 : Nat) < nat_lit 1 ∧
                (0 : Nat) < nat_lit 1 ∧
                  ((-9223372036854775808 : Int) ≤ A (↑z : Int).toNat * min (H z) (R (↑z : Int).toNat) ∧
                      A (↑z : Int).toNat * min (H z) (R (↑z : Int).toNat) ≤ (9223372036854775807 : Int)) ∧
                    ((-9223372036854775808 : Int) ≤ V z + A (↑z : Int).toNat * min (H z) (R (↑z : Int).toNat) ∧
                        V z + A (↑z : Int).toNat * min (H z) (R (↑z : Int).toNat) ≤ (9223372036854775807 : Int)) ∧
                      ((-9223372036854775808 : Int) ≤ H z - min (H z) (R (↑z : Int).toNat) ∧
                          H z - min (H z) (R (↑z : Int).toNat) ≤ (9223372036854775807 : Int)) ∧
                        ((-9223372036854775808 : Int) ≤ (↑z : Int) + (1 : Int) ∧
                            (↑z : Int) + (1 : Int) ≤ (9223372036854775807 : Int)) ∧
                          ((↑z : Int) + (1 : Int)).toNat.le n ∧
                            n - ((↑z : Int) + (1 : Int)).toNat < n - z ∧
                              H z - min (H z) (R (↑z : Int).toNat) = H ((↑z : Int) + (1 : Int)).toNat ∧
                                V z + A (↑z : Int).toNat * min (H z) (R (↑z : Int).toNat) =
                                    V ((↑z : Int) + (1 : Int)).toNat ∧
                                  n = n ∧
                                    (∀ (i : Nat),
                                        i < n →
                                          ((fun i => SV.agg [SV.int IntKind.i64 (A i), SV.int IntKind.i64 (R i)])
                                                  i).den =
                                              ((fun i => SV.agg [SV.int IntKind.i64 (A i), SV.int IntKind.i64 (R i)])
                                                  i).den ∧
                                            True ∧ True ∧ True) ∧
                                      (↑n : Int) = (↑n : Int) ∧
                                        (↑z : Int) + (1 : Int) = (↑((↑z : Int) + (1 : Int)).toNat : Int) ∧ True) ∧
        (¬(↑z : Int) < (↑n : Int) → V z = V n ∧ True)) := by kernel_rfl
theorem volG2_vc (n : Nat) (A R V H : Nat → Int) (h : Int) : volG' n A R V H h =
  (((Int.toNat (0 : Int)).le n ∧
    n = n ∧
      (∀ (i : Nat),
          i < n →
            ((fun i => SV.agg [SV.int IntKind.i64 (A i), SV.int IntKind.i64 (R i)]) i).den =
                ((fun i => SV.agg [SV.int IntKind.i64 (A i), SV.int IntKind.i64 (R i)]) i).den ∧
              True ∧ True ∧ True) ∧
        h = H (Int.toNat (0 : Int)) ∧
          (0 : Int) = V (Int.toNat (0 : Int)) ∧ (0 : Int) = (↑(Int.toNat (0 : Int)) : Int) ∧ True) ∧
  ∀ (z : Nat),
    z.le n →
      ((↑z : Int) < (↑n : Int) →
          (0 : Int) ≤ (↑z : Int) ∧
            (↑z : Int) < (↑n : Int) ∧
              (0 : Int) ≤ (↑z : Int) ∧
                (↑z : Int) < (↑n : Int) ∧
                  ((-9223372036854775808 : Int) ≤ A (↑z : Int).toNat * min (R (↑z : Int).toNat) (H z) ∧
                      A (↑z : Int).toNat * min (R (↑z : Int).toNat) (H z) ≤ (9223372036854775807 : Int)) ∧
                    ((-9223372036854775808 : Int) ≤ V z + A (↑z : Int).toNat * min (R (↑z : Int).toNat) (H z) ∧
                        V z + A (↑z : Int).toNat * min (R (↑z : Int).toNat) (H z) ≤ (9223372036854775807 : Int)) ∧
                      ((-9223372036854775808 : Int) ≤ H z - min (R (↑z : Int).toNat) (H z) ∧
                          H z - min (R (↑z : Int).toNat) (H z) ≤ (9223372036854775807 : Int)) ∧
                        ((-9223372036854775808 : Int) ≤ (↑z : Int) + (1 : Int) ∧
                            (↑z : Int) + (1 : Int) ≤ (9223372036854775807 : Int)) ∧
                          ((↑z : Int) + (1 : Int)).toNat.le n ∧
                            n - ((↑z : Int) + (1 : Int)).toNat < n - z ∧
                              n = n ∧
                                (∀ (i : Nat),
                                    i < n →
                                      ((fun i => SV.agg [SV.int IntKind.i64 (A i), SV.int IntKind.i64 (R i)]) i).den =
                                          ((fun i => SV.agg [SV.int IntKind.i64 (A i), SV.int IntKind.i64 (R i)])
                                              i).den ∧
                                        True ∧ True ∧ True) ∧
                                  H z - min (R (↑z : Int).toNat) (H z) = H ((↑z : Int) + (1 : Int)).toNat ∧
                                    V z + A (↑z : Int).toNat * min (R (↑z : Int).toNat) (H z) =
                                        V ((↑z : Int) + (1 : Int)).toNat ∧
                                      (↑z : Int) + (1 : Int) = (↑((↑z : Int) + (1 : Int)).toNat : Int) ∧ True) ∧
        (¬(↑z : Int) < (↑n : Int) → V z = V n ∧ True)) := by kernel_rfl
end Go.Proofs.Ytoeolgeidpjgbaa

set_option linter.unusedVariables false
namespace Go.Proofs.Ytoeolgeidpjgbaa
open Go Go.Lg
theorem c0 : ((0 : Int) = ((0 : Nat) : Int)) = True := eq_true rfl
theorem valid_true (n : Nat) (A R : Nat → Int) : validG n A R := by
  rw [validG_vc]
  simp only [and_true, true_and, Int.toNat_natCast, implies_true, Int.toNat_zero, c0, lit1, and_self]
  refine ⟨fun h => ?_, fun h => ⟨⟨Nat.zero_le _, fun j hj => by omega⟩, fun z hz => ⟨fun hlt => ⟨by omega, hlt, fun a => ?_, fun a => ⟨fun b => ?_, fun b => ⟨⟨by omega, by omega⟩, ⟨by omega, fun j hj => ?_⟩, by omega, by omega⟩⟩⟩, fun hge => ?_⟩⟩⟩
  · simp only [Bool.false_eq_true, false_iff]; exact fun h' => h h'.1
  · simp only [Bool.false_eq_true, false_iff]; intro h'; exact a (h'.2 z (by omega)).1
  · simp only [Bool.false_eq_true, false_iff]; intro h'; exact b (h'.2 z (by omega)).2
  · have e : ((z : Int) + 1).toNat = z + 1 := by omega
    rw [e] at hj
    rcases Nat.lt_succ_iff_lt_or_eq.1 hj with h' | rfl
    · exact hz.2 j h'
    · exact ⟨by omega, by omega⟩
  · have : z = n := by omega
    subst this
    simp only [true_iff]
    exact ⟨by omega, fun i hi => hz.2 i hi⟩
theorem lifts_true (n : Nat) (A R : Nat → Int) : liftsG n A R := by
  rw [liftsG_vc]
  simp only [and_true, true_and, Int.toNat_natCast, implies_true, Int.toNat_zero, c0, and_self]
  refine ⟨⟨Nat.zero_le _, fun j hj => by omega⟩, fun z hz => ⟨fun hlt => ⟨fun h4 => ⟨by omega, hlt, fun a => ?_, fun a => ⟨by omega, hlt, fun b => ?_, fun b => ⟨⟨by omega, by omega⟩, ⟨by omega, fun j hj => ?_⟩, by omega, by omega⟩⟩⟩, fun h4 => ?_⟩, fun hge => ?_⟩⟩
  · simp only [Bool.false_eq_true, false_iff]; intro h'; exact a (h'.2 z (by omega)).1
  · simp only [Bool.false_eq_true, false_iff]; intro h'; exact b (h'.2 z (by omega)).2
  · have e : ((z : Int) + 1).toNat = z + 1 := by omega
    rw [e] at hj
    rcases Nat.lt_succ_iff_lt_or_eq.1 hj with h' | rfl
    · exact hz.2 j h'
    · exact ⟨by omega, by omega⟩
  · exact ⟨fun h => by omega, fun h => h.1⟩
  · exact ⟨fun h => ⟨h, fun i hi => hz.2 i (by omega)⟩, fun h => h.1⟩

def sI (R : Nat → Int) : Nat → Int
  | 0 => 0
  | i + 1 => sI R i + R i
def hI (R : Nat → Int) (h : Int) : Nat → Int
  | 0 => h
  | i + 1 => hI R h i - min (hI R h i) (R i)
def vI (A R : Nat → Int) (h : Int) : Nat → Int
  | 0 => 0
  | i + 1 => vI A R h i + A i * min (hI R h i) (R i)
theorem sI_le {n : Nat} {A R : Nat → Int} (hv : vL n A R) : ∀ i, i ≤ n → 0 ≤ sI R i ∧ sI R i ≤ 100 * (i : Int)
  | 0, _ => by simp [sI]
  | i + 1, h => by
    have := sI_le hv i (by omega)
    have h2 := (hv.2 i (by omega)).2
    simp only [sI]
    push_cast
    omega
theorem mulBound {a m : Int} (h1 : 1 ≤ a) (h2 : a ≤ 100000) (h3 : 0 ≤ m) (h4 : m ≤ 100) : 0 ≤ a * m ∧ a * m ≤ 10000000 := by
  refine ⟨Int.mul_nonneg (by omega) h3, ?_⟩
  have := Int.mul_le_mul h2 h4 h3 (by omega)
  omega
theorem vI_le {n : Nat} {A R : Nat → Int} (hv : vL n A R) {h : Int} (h0 : 0 ≤ h) : ∀ i, i ≤ n → 0 ≤ hI R h i ∧ hI R h i ≤ h ∧ 0 ≤ vI A R h i ∧ vI A R h i ≤ 10000000 * (i : Int)
  | 0, _ => by simp [hI, vI]; exact h0
  | i + 1, hi => by
    obtain ⟨b1, b2, b3, b4⟩ := vI_le hv h0 i (by omega)
    obtain ⟨⟨a1, a2⟩, r1, r2⟩ := hv.2 i (by omega)
    have hm := mulBound a1 a2 (m := min (hI R h i) (R i)) (by omega) (by omega)
    simp only [hI, vI]
    push_cast
    omega
theorem top_true (n : Nat) (A R : Nat → Int) (hv : vL n A R) : topG n A R (sI R) := by
  rw [topG_vc]
  simp only [and_true, true_and, Int.toNat_natCast, implies_true, Int.toNat_zero, c0, lit1, and_self]
  refine ⟨⟨Nat.zero_le _, rfl⟩, fun z hz => ⟨fun hlt => ?_, fun hge => ?_⟩⟩
  · have hz : z ≤ n := hz
    have e : ((z : Int) + 1).toNat = z + 1 := by omega
    have := sI_le hv z hz
    have h2 := (hv.2 z (by omega)).2
    have hn := hv.1
    rw [e]
    exact ⟨by omega, hlt, ⟨by omega, by omega⟩, ⟨by omega, by omega⟩, (show z + 1 ≤ n by omega), by omega, rfl, by omega⟩
  · have hz : z ≤ n := hz
    have : z = n := by omega
    rw [this]
theorem top2_true (n : Nat) (A R : Nat → Int) (hv : vL n A R) : topG' n A R (sI R) := by
  rw [topG2_vc]
  simp only [and_true, true_and, Int.toNat_natCast, implies_true, Int.toNat_zero, c0, and_self]
  refine ⟨⟨Nat.zero_le _, rfl⟩, fun z hz => ⟨fun hlt => ?_, fun hge => ?_⟩⟩
  · have hz : z ≤ n := hz
    have e : ((z : Int) + 1).toNat = z + 1 := by omega
    have := sI_le hv z hz
    have h2 := (hv.2 z (by omega)).2
    have hn := hv.1
    rw [e]
    exact ⟨by omega, hlt, ⟨by omega, by omega⟩, ⟨by omega, by omega⟩, (show z + 1 ≤ n by omega), by omega, rfl, by omega⟩
  · have hz : z ≤ n := hz
    have : z = n := by omega
    rw [this]
theorem vol_true (n : Nat) (A R : Nat → Int) (h : Int) (hv : vL n A R) (h0 : 0 ≤ h) (h1 : h ≤ 1000000) : volG n A R (vI A R h) (hI R h) h := by
  rw [volG_vc]
  simp only [and_true, true_and, Int.toNat_natCast, implies_true, Int.toNat_zero, c0, lit1, and_self]
  refine ⟨⟨Nat.zero_le _, rfl, rfl⟩, fun z hz => ⟨fun hlt => ?_, fun hge => ?_⟩⟩
  · have hz : z ≤ n := hz
    have e : ((z : Int) + 1).toNat = z + 1 := by omega
    obtain ⟨b1, b2, b3, b4⟩ := vI_le hv h0 z hz
    obtain ⟨⟨a1, a2⟩, r1, r2⟩ := hv.2 z (by omega)
    have hm := mulBound a1 a2 (m := min (hI R h z) (R z)) (by omega) (by omega)
    have hn := hv.1
    rw [e]
    exact ⟨by omega, hlt, ⟨by omega, by omega⟩, ⟨by omega, by omega⟩, ⟨by omega, by omega⟩, ⟨by omega, by omega⟩, (show z + 1 ≤ n by omega), by omega, rfl, rfl, by omega⟩
  · have hz : z ≤ n := hz
    have : z = n := by omega
    rw [this]
theorem vol2_true (n : Nat) (A R : Nat → Int) (h : Int) (hv : vL n A R) (h0 : 0 ≤ h) (h1 : h ≤ 1000000) : volG' n A R (vI A R h) (hI R h) h := by
  rw [volG2_vc]
  simp only [and_true, true_and, Int.toNat_natCast, implies_true, Int.toNat_zero, c0, and_self]
  refine ⟨⟨Nat.zero_le _, rfl, rfl⟩, fun z hz => ⟨fun hlt => ?_, fun hge => ?_⟩⟩
  · have hz : z ≤ n := hz
    have e : ((z : Int) + 1).toNat = z + 1 := by omega
    obtain ⟨b1, b2, b3, b4⟩ := vI_le hv h0 z hz
    obtain ⟨⟨a1, a2⟩, r1, r2⟩ := hv.2 z (by omega)
    have em : min (R z) (hI R h z) = min (hI R h z) (R z) := Int.min_comm _ _
    have hm := mulBound a1 a2 (m := min (hI R h z) (R z)) (by omega) (by omega)
    have hn := hv.1
    rw [e, em]
    exact ⟨by omega, hlt, by omega, hlt, ⟨by omega, by omega⟩, ⟨by omega, by omega⟩, ⟨by omega, by omega⟩, ⟨by omega, by omega⟩, (show z + 1 ≤ n by omega), by omega, rfl, rfl, by omega⟩
  · have hz : z ≤ n := hz
    have : z = n := by omega
    rw [this]
end Go.Proofs.Ytoeolgeidpjgbaa
