import Derived.ProofKit
import Derived.Test.YtoeolgeidpjgbaaProg
import Derived.Test.YtoeolgeidpjgbaaWjWkWlWm
set_option linter.unusedVariables false
namespace Go.Proofs.Ytoeolgeidpjgbaa
open Go Go.Lg
noncomputable def mkF (n : Nat) (l : List (Nat × SV)) : FS := List.rec (motive := fun _ => FS) .nil (fun p _ ih => sset n ih p.1 p.2) l
theorem mixed : Try.prog.follows .mixedOrders = true := by kernel_rfl
noncomputable def isFromG (n a b : Int) : Prop := funS Try.prog (ctrs []) (fun _ => none) 40 [.int .i64 n, .int .i64 a, .int .i64 b] (.dec (a ≤ n ∧ n ≤ b) inferInstance)
noncomputable def inG (n a b : Int) : Prop := funS Try.prog (ctrs []) (fun _ => none) 43 [.int .i64 n, .int .i64 a, .int .i64 b] (.dec (a ≤ n ∧ n ≤ b) inferInstance)
noncomputable def vspanG (x y a b : Int) : Prop := funS Try.prog (ctrs []) (fun _ => none) 46 [.agg [.int .i64 x, .int .i64 y], .int .i64 a, .int .i64 b] (.dec (a ≤ x ∧ x ≤ y ∧ y ≤ b) inferInstance)
noncomputable def spanG (x y a b : Int) : Prop := funS Try.prog (ctrs []) (fun _ => none) 48 [.agg [.int .i64 x, .int .i64 y], .int .i64 a, .int .i64 b] (.dec (a ≤ x ∧ x ≤ y ∧ y ≤ b) inferInstance)
end Go.Proofs.Ytoeolgeidpjgbaa

set_option linter.unusedVariables false
namespace Go.Proofs.Ytoeolgeidpjgbaa
open Go Go.Lg
theorem lit1 : ((0 : Nat) < nat_lit 1) = True := eq_true Nat.one_pos
theorem isFrom_vc (n a b : Int) : isFromG n a b = ((a ≤ n → (n ≤ b ↔ a ≤ n ∧ n ≤ b) ∧ True) ∧ (¬a ≤ n → (false = true ↔ a ≤ n ∧ n ≤ b) ∧ True)) := by kernel_rfl
theorem in_vc (n a b : Int) : inG n a b = ((a ≤ n → (n ≤ b ↔ a ≤ n ∧ n ≤ b) ∧ True) ∧ (¬a ≤ n → (false = true ↔ a ≤ n ∧ n ≤ b) ∧ True)) := by kernel_rfl
theorem vspan_vc (x y a b : Int) : vspanG x y a b = ((0 : Nat) < nat_lit 1 ∧
  (a ≤ x →
      (0 : Nat) < nat_lit 1 ∧
        (0 : Nat) < nat_lit 1 ∧
          (x ≤ y → (0 : Nat) < nat_lit 1 ∧ (y ≤ b ↔ a ≤ x ∧ x ≤ y ∧ y ≤ b) ∧ True) ∧
            (¬x ≤ y → (false = true ↔ a ≤ x ∧ x ≤ y ∧ y ≤ b) ∧ True)) ∧
    (¬a ≤ x → (false = true ↔ a ≤ x ∧ x ≤ y ∧ y ≤ b) ∧ True)) := by kernel_rfl
theorem span_vc (x y a b : Int) : spanG x y a b = ((0 : Nat) < nat_lit 1 ∧
  (a ≤ x →
      (0 : Nat) < nat_lit 1 ∧
        (0 : Nat) < nat_lit 1 ∧
          (x ≤ y → (0 : Nat) < nat_lit 1 ∧ (y ≤ b ↔ a ≤ x ∧ x ≤ y ∧ y ≤ b) ∧ True) ∧
            (¬x ≤ y → (false = true ↔ a ≤ x ∧ x ≤ y ∧ y ≤ b) ∧ True)) ∧
    (¬a ≤ x → (false = true ↔ a ≤ x ∧ x ≤ y ∧ y ≤ b) ∧ True)) := by kernel_rfl
def fromC (f : FuncId) : Ctr := ⟨f, fun args k => match args with
  | [.int .i64 n, .int .i64 a, .int .i64 b] => k (.dec (a ≤ n ∧ n ≤ b) inferInstance)
  | _ => False⟩
def spanC (f : FuncId) : Ctr := ⟨f, fun args k => match args with
  | [.agg [.int .i64 x, .int .i64 y], .int .i64 a, .int .i64 b] => k (.dec (a ≤ x ∧ x ≤ y ∧ y ≤ b) inferInstance)
  | _ => False⟩
theorem isFrom_ok : (fromC 40).Ok Try.prog := by
  refine ⟨by kernel_rfl, fun args k h => ?_⟩
  simp only [fromC] at h
  split at h
  · rename_i n a b
    refine ⟨.dec (a ≤ n ∧ n ≤ b) inferInstance, Does.plain (funS_does (cs := ctrs []) (sp := fun _ => none) (args := [.int .i64 n, .int .i64 a, .int .i64 b]) (ctrs_sound (by simp)) mixed ?_) trivial, h⟩
    show isFromG n a b
    rw [isFrom_vc]
    exact ⟨fun h => by simp [h], fun h => by simp [h]⟩
  · exact h.elim
theorem in_ok : (fromC 43).Ok Try.prog := by
  refine ⟨by kernel_rfl, fun args k h => ?_⟩
  simp only [fromC] at h
  split at h
  · rename_i n a b
    refine ⟨.dec (a ≤ n ∧ n ≤ b) inferInstance, Does.plain (funS_does (cs := ctrs []) (sp := fun _ => none) (args := [.int .i64 n, .int .i64 a, .int .i64 b]) (ctrs_sound (by simp)) mixed ?_) trivial, h⟩
    show inG n a b
    rw [in_vc]
    exact ⟨fun h => by simp [h], fun h => by simp [h]⟩
  · exact h.elim
theorem vspan_ok : (spanC 46).Ok Try.prog := by
  refine ⟨by kernel_rfl, fun args k h => ?_⟩
  simp only [spanC] at h
  split at h
  · rename_i x y a b
    refine ⟨.dec (a ≤ x ∧ x ≤ y ∧ y ≤ b) inferInstance, Does.plain (funS_does (cs := ctrs []) (sp := fun _ => none) (args := [.agg [.int .i64 x, .int .i64 y], .int .i64 a, .int .i64 b]) (ctrs_sound (by simp)) mixed ?_) trivial, h⟩
    show vspanG x y a b
    rw [vspan_vc]
    simp only [lit1, true_and, and_true]
    exact ⟨fun h => ⟨fun h' => by simp [h, h'], fun h' => by simp [h']⟩, fun h => by simp [h]⟩
  · exact h.elim
theorem span_ok : (spanC 48).Ok Try.prog := by
  refine ⟨by kernel_rfl, fun args k h => ?_⟩
  simp only [spanC] at h
  split at h
  · rename_i x y a b
    refine ⟨.dec (a ≤ x ∧ x ≤ y ∧ y ≤ b) inferInstance, Does.plain (funS_does (cs := ctrs []) (sp := fun _ => none) (args := [.agg [.int .i64 x, .int .i64 y], .int .i64 a, .int .i64 b]) (ctrs_sound (by simp)) mixed ?_) trivial, h⟩
    show spanG x y a b
    rw [span_vc]
    simp only [lit1, true_and, and_true]
    exact ⟨fun h => ⟨fun h' => by simp [h, h'], fun h' => by simp [h']⟩, fun h => by simp [h]⟩
  · exact h.elim

def lifts (n : Nat) (A R : Nat → Int) : SV := .lst 2 n fun i => .agg [.int .i64 (A i), .int .i64 (R i)]
def okL (a r : Int) : Prop := (1 ≤ a ∧ a ≤ 100000) ∧ (1 ≤ r ∧ r ≤ 100)
def vL (n : Nat) (A R : Nat → Int) : Prop := (1 ≤ (n : Int) ∧ (n : Int) ≤ 4) ∧ ∀ i, i < n → okL (A i) (R i)
theorem rdI {m i : Nat} (t : FS) (X : XS) (k : Nat → Prop) (h : (match sget m t i with
    | .int _ z => k z.toNat
    | _ => False)) : ∃ s, k s := by
  split at h
  · exact ⟨_, h⟩
  · exact h.elim
noncomputable def cntS (n m slot : Nat) (inv : Nat → Prop) (t : Nat → FS) : LSpec where
  σ := Nat
  inv := inv
  μ := fun i => n - i
  nr := 0
  ms := fun _ _ => []
  t := t
  X := fun _ => ⟨0, .nil⟩
  rd := fun t X k => match sget m t slot with
    | .int _ z => k z.toNat
    | _ => False
  rdOK := rdI
noncomputable def one (s : LSpec) : Nat → Option LSpec := fun i => match i with
  | 0 => some s
  | _ => none
noncomputable def csA : CSpec := ctrs [fromC 40, fromC 43]
noncomputable def validG (n : Nat) (A R : Nat → Int) : Prop :=
  funS Try.prog csA (one (cntS n 26 11 (fun i => i ≤ n ∧ ∀ j, j < i → okL (A j) (R j)) fun i => mkF 26 [(2, .bool false), (9, lifts n A R), (10, .int .i64 n), (11, .int .i64 i)])) 39 [lifts n A R] (.dec (vL n A R) (Classical.propDecidable _))
noncomputable def liftsG (n : Nat) (A R : Nat → Int) : Prop :=
  funS Try.prog csA (one (cntS n 33 3 (fun i => i ≤ n ∧ ∀ j, j < i → okL (A j) (R j)) fun i => mkF 33 [(0, lifts n A R), (2, .bool false), (3, .int .i64 i)])) 38 [lifts n A R] (.dec (vL n A R) (Classical.propDecidable _))
noncomputable def topG (n : Nat) (A R S : Nat → Int) : Prop :=
  funS Try.prog csA (one (cntS n 18 8 (fun i => i ≤ n) fun i => mkF 18 [(3, .int .i64 (S i)), (6, lifts n A R), (7, .int .i64 n), (8, .int .i64 i)])) 41 [lifts n A R] (.int .i64 (S n))
noncomputable def topG' (n : Nat) (A R S : Nat → Int) : Prop :=
  funS Try.prog csA (one (cntS n 19 4 (fun i => i ≤ n) fun i => mkF 19 [(0, lifts n A R), (3, .int .i64 (S i)), (4, .int .i64 i)])) 44 [lifts n A R] (.int .i64 (S n))
noncomputable def volG (n : Nat) (A R V H : Nat → Int) (h : Int) : Prop :=
  funS Try.prog csA (one (cntS n 30 11 (fun i => i ≤ n) fun i => mkF 30 [(1, .int .i64 (H i)), (5, .int .i64 (V i)), (9, lifts n A R), (10, .int .i64 n), (11, .int .i64 i)])) 42 [lifts n A R, .int .i64 h] (.int .i64 (V n))
noncomputable def volG' (n : Nat) (A R V H : Nat → Int) (h : Int) : Prop :=
  funS Try.prog csA (one (cntS n 34 6 (fun i => i ≤ n) fun i => mkF 34 [(0, lifts n A R), (1, .int .i64 (H i)), (5, .int .i64 (V i)), (6, .int .i64 i)])) 45 [lifts n A R, .int .i64 h] (.int .i64 (V n))
end Go.Proofs.Ytoeolgeidpjgbaa

set_option linter.unusedVariables false
namespace Go.Proofs.Ytoeolgeidpjgbaa
open Go Go.Lg
end Go.Proofs.Ytoeolgeidpjgbaa

set_option linter.unusedVariables false
namespace Go.Proofs.Ytoeolgeidpjgbaa
open Go Go.Lg
theorem c0 : ((0 : Int) = ((0 : Nat) : Int)) = True := eq_true rfl
def sI (R : Nat → Int) : Nat → Int
  | 0 => 0
  | i + 1 => sI R i + R i
def hI (R : Nat → Int) (h : Int) : Nat → Int
  | 0 => h
  | i + 1 => hI R h i - min (hI R h i) (R i)
def vI (A R : Nat → Int) (h : Int) : Nat → Int
  | 0 => 0
  | i + 1 => vI A R h i + A i * min (hI R h i) (R i)
end Go.Proofs.Ytoeolgeidpjgbaa

set_option linter.unusedVariables false
namespace Go.Proofs.Ytoeolgeidpjgbaa
open Go Go.Lg
structure Wt where
  full : Int
  least : Int
  s0 : Int
  s1 : Int
  n : Nat
  dl : Nat → Int
  dh : Nat → Int
  ret : Int
  lit : Int
  yield : Int
  coal : Int
  light : Int
abbrev i6 (z : Int) : SV := .int .i64 z
def Wt.sv (w : Wt) : SV := .agg [i6 w.full, i6 w.least, i6 w.s0, i6 w.s1, .lst 2 w.n (fun i => .agg [i6 (w.dl i), i6 (w.dh i)]), i6 w.ret, i6 w.lit, i6 w.yield, i6 w.coal, i6 w.light]
def planV (m : Nat) (p : Nat → Int) : SV := .lst 1 m fun i => i6 (p i)
noncomputable def mkX (l : List SRow) : XS := List.rec (motive := fun _ => XS → XS) (fun X => X) (fun x _ ih X => ih (X.push (some x))) l ⟨0, .nil⟩
def vr (sz : Nat) (v : SV) : SRow := ⟨sz, 1, fun _ => v, true⟩
noncomputable def cntX (n m slot nr : Nat) (inv : Nat → Prop) (t : Nat → FS) (X : Nat → XS) : LSpec where
  σ := Nat
  inv := inv
  μ := fun i => n - i
  nr := nr
  ms := fun _ _ => []
  t := t
  X := X
  rd := fun t X k => match sget m t slot with
    | .int _ z => k z.toNat
    | _ => False
  rdOK := rdI
def isPlanP (w : Wt) (m : Nat) (p : Nat → Int) : Prop := (m : Int) = w.n ∧ ∀ i, i < m → 0 ≤ p i ∧ p i ≤ w.ret
noncomputable def isPlanG (w : Wt) (m : Nat) (p : Nat → Int) : Prop :=
  funS Try.prog csA (one (cntX m 26 5 1 (fun i => i ≤ m ∧ ∀ j, j < i → 0 ≤ p j ∧ p j ≤ w.ret) (fun i => mkF 26 [(1, planV m p), (2, .ptr 0 0 0), (4, .bool false), (5, i6 i)]) fun _ => mkX [vr 10 w.sv])) 35 [w.sv, planV m p] (.dec (isPlanP w m p) (Classical.propDecidable _))
end Go.Proofs.Ytoeolgeidpjgbaa

set_option linter.unusedVariables false
namespace Go.Proofs.Ytoeolgeidpjgbaa
open Go Go.Lg
def okD (w : Wt) (i : Nat) : Prop := 0 ≤ w.dl i ∧ w.dl i ≤ w.dh i ∧ w.dh i ≤ 1073741824
def sizesP (w : Wt) : Prop := (0 ≤ w.full ∧ w.full ≤ 1073741824) ∧ (0 ≤ w.least ∧ w.least ≤ w.full) ∧ (0 ≤ w.s0 ∧ w.s0 ≤ w.s1 ∧ w.s1 ≤ 1073741824) ∧ (w.n : Int) ≤ 12
def restP (w : Wt) : Prop := (0 ≤ w.ret ∧ w.ret ≤ 4) ∧ (0 ≤ w.lit ∧ w.lit ≤ w.ret) ∧ (0 ≤ w.yield ∧ w.yield ≤ 1073741824) ∧ (0 ≤ w.coal ∧ w.coal ≤ 10000) ∧ (0 ≤ w.light ∧ w.light ≤ 10000)
def watchP (w : Wt) : Prop := (sizesP w ∧ restP w) ∧ ∀ i, i < w.n → okD w i
noncomputable def csX : CSpec := ctrs [fromC 40, fromC 43, spanC 46, spanC 48]
noncomputable def isPlanG' (w : Wt) (m : Nat) (p : Nat → Int) : Prop :=
  funS Try.prog csX (one (cntX m 25 15 1 (fun i => i ≤ m ∧ ∀ j, j < i → 0 ≤ p j ∧ p j ≤ w.ret) (fun i => mkF 25 [(1, planV m p), (2, .ptr 0 0 0), (4, .bool false), (13, planV m p), (14, i6 m), (15, i6 i)]) fun _ => mkX [vr 10 w.sv])) 50 [w.sv, planV m p] (.dec (isPlanP w m p) (Classical.propDecidable _))
noncomputable def watchG (w : Wt) : Prop :=
  funS Try.prog csX (one (cntX w.n 72 3 1 (fun i => i ≤ w.n ∧ ∀ j, j < i → okD w j) (fun i => mkF 72 [(1, .ptr 0 0 0), (2, .bool false), (3, i6 i)]) fun _ => mkX [vr 10 w.sv])) 34 [w.sv] (.dec (watchP w) (Classical.propDecidable _))
noncomputable def watchG' (w : Wt) : Prop :=
  funS Try.prog csX (one (cntX w.n 65 32 1 (fun i => i ≤ w.n ∧ ∀ j, j < i → okD w j) (fun i => mkF 65 [(1, .ptr 0 0 0), (2, .bool false), (30, .lst 2 w.n (fun i => .agg [i6 (w.dl i), i6 (w.dh i)])), (31, i6 w.n), (32, i6 i)]) fun _ => mkX [vr 10 w.sv])) 49 [w.sv] (.dec (watchP w) (Classical.propDecidable _))
noncomputable def greatG (w : Wt) (k : Int) : Prop := funS Try.prog csX (fun _ => none) 19 [w.sv, i6 k] (.dec ((k < w.n ∧ (w.n : Int) ≤ 12) ∨ 20 < (w.n : Int)) inferInstance)
def spansV (n : Nat) (l h : Nat → Int) : SV := .lst 2 n fun i => .agg [i6 (l i), i6 (h i)]
def sameP (n m : Nat) (l h l' h' : Nat → Int) : Prop := (n : Int) = m ∧ ∀ i, i < n → l i = l' i ∧ h i = h' i
noncomputable def spansG (n m : Nat) (l h l' h' : Nat → Int) : Prop :=
  funS Try.prog csX (one (cntX n 26 5 0 (fun i => i ≤ n ∧ ∀ j, j < i → l j = l' j ∧ h j = h' j) (fun i => mkF 26 [(0, spansV n l h), (1, spansV m l' h'), (4, .bool false), (5, i6 i)]) fun _ => ⟨0, .nil⟩)) 22 [spansV n l h, spansV m l' h'] (.dec (sameP n m l h l' h') (Classical.propDecidable _))
def tk (f : Nat → Int) : Nat → Int
  | 0 => 0
  | i + 1 => tk f i + f i
noncomputable def afterG (w : Wt) (hour total : Int) (N : Nat) : Prop :=
  funS Try.prog csX (one (cntX N 51 8 3 (fun i => (i : Int) ≤ hour + 1) (fun i => mkF 51 [(1, i6 hour), (3, .ptr 0 0 0), (6, .ptr 1 0 0), (7, .ptr 2 0 0), (8, i6 i)])
    fun i => mkX [vr 10 w.sv, vr 2 (.agg [i6 0, i6 0]), vr 2 (.agg [i6 (w.s0 + w.yield * total - tk w.dh i), i6 (w.s1 + w.yield * total - tk w.dl i)])])) 53 [w.sv, i6 hour, i6 total]
    (.agg [i6 (w.s0 + w.yield * total - tk w.dh (hour.toNat + 1)), i6 (w.s1 + w.yield * total - tk w.dl (hour.toNat + 1))])
end Go.Proofs.Ytoeolgeidpjgbaa

set_option linter.unusedVariables false
namespace Go.Proofs.Ytoeolgeidpjgbaa
open Go Go.Lg
theorem isPlanG_vc (w : Wt) (m : Nat) (p : Nat → Int) : isPlanG w m p =
  (((Int.toNat (0 : Int) ≤ m ∧ ∀ (j : Nat), j < Int.toNat (0 : Int) → (0 : Int) ≤ p j ∧ p j ≤ w.8) ∧
    m = m ∧
      (∀ (i : Nat), i < m → ((fun i => i6 (p i)) i).den = ((fun i => i6 (p i)) i).den ∧ True) ∧
        (0 : Nat) = (0 : Nat) ∧
          (0 : Nat) = (0 : Nat) ∧
            false = false ∧
              (0 : Int) = (↑(Int.toNat (0 : Int)) : Int) ∧
                w.1 = w.1 ∧
                  w.2 = w.2 ∧
                    w.3 = w.3 ∧
                      w.4 = w.4 ∧
                        w.5 = w.5 ∧
                          (∀ (i : Nat),
                              i < w.5 →
                                ((fun i => SV.agg [i6 (w.dl i), i6 (w.dh i)]) i).den =
                                    ((fun i => SV.agg [i6 (w.dl i), i6 (w.dh i)]) i).den ∧
                                  True ∧ True ∧ True) ∧
                            w.8 = w.8 ∧ w.9 = w.9 ∧ w.10 = w.10 ∧ w.11 = w.11 ∧ w.12 = w.12 ∧ True) ∧
  ∀ (z : Nat),
    (z ≤ m ∧ ∀ (j : Nat), j < z → (0 : Int) ≤ p j ∧ p j ≤ w.8) →
      ((↑z : Int) < (↑m : Int) →
          (0 : Int) ≤ (↑z : Int) ∧
            (↑z : Int) < (↑m : Int) ∧
              (0 : Nat) < nat_lit 1 ∧
                (¬((0 : Int) ≤ p (↑z : Int).toNat ∧ p (↑z : Int).toNat ≤ w.8) →
                    (false = true ↔ (↑m : Int) = (↑w.5 : Int) ∧ ∀ (i : Nat), i < m → (0 : Int) ≤ p i ∧ p i ≤ w.ret) ∧
                      True) ∧
                  (¬¬((0 : Int) ≤ p (↑z : Int).toNat ∧ p (↑z : Int).toNat ≤ w.8) →
                    ((-9223372036854775808 : Int) ≤ (↑z : Int) + (1 : Int) ∧
                        (↑z : Int) + (1 : Int) ≤ (9223372036854775807 : Int)) ∧
                      (((↑z : Int) + (1 : Int)).toNat ≤ m ∧
                          ∀ (j : Nat), j < ((↑z : Int) + (1 : Int)).toNat → (0 : Int) ≤ p j ∧ p j ≤ w.8) ∧
                        m - ((↑z : Int) + (1 : Int)).toNat < m - z ∧
                          m = m ∧
                            (∀ (i : Nat), i < m → ((fun i => i6 (p i)) i).den = ((fun i => i6 (p i)) i).den ∧ True) ∧
                              (0 : Nat) = (0 : Nat) ∧
                                (0 : Nat) = (0 : Nat) ∧
                                  false = false ∧
                                    (↑z : Int) + (1 : Int) = (↑((↑z : Int) + (1 : Int)).toNat : Int) ∧
                                      w.1 = w.1 ∧
                                        w.2 = w.2 ∧
                                          w.3 = w.3 ∧
                                            w.4 = w.4 ∧
                                              w.5 = w.5 ∧
                                                (∀ (i : Nat),
                                                    i < w.5 →
                                                      ((fun i => SV.agg [i6 (w.dl i), i6 (w.dh i)]) i).den =
                                                          ((fun i => SV.agg [i6 (w.dl i), i6 (w.dh i)]) i).den ∧
                                                        True ∧ True ∧ True) ∧
                                                  w.8 = w.8 ∧
                                                    w.9 = w.9 ∧ w.10 = w.10 ∧ w.11 = w.11 ∧ w.12 = w.12 ∧ True)) ∧
        (¬(↑z : Int) < (↑m : Int) →
          (0 : Nat) < nat_lit 1 ∧
            ((↑m : Int) = (↑w.5 : Int) ↔
                (↑m : Int) = (↑w.5 : Int) ∧ ∀ (i : Nat), i < m → (0 : Int) ≤ p i ∧ p i ≤ w.ret) ∧
              True)) := by kernel_rfl
theorem isPlanG2_vc (w : Wt) (m : Nat) (p : Nat → Int) : isPlanG' w m p =
  ((0 : Nat) < nat_lit 1 ∧
  (¬(↑m : Int) = (↑w.5 : Int) →
      (false = true ↔ (↑m : Int) = (↑w.5 : Int) ∧ ∀ (i : Nat), i < m → (0 : Int) ≤ p i ∧ p i ≤ w.ret) ∧ True) ∧
    (¬¬(↑m : Int) = (↑w.5 : Int) →
      ((Int.toNat (0 : Int) ≤ m ∧ ∀ (j : Nat), j < Int.toNat (0 : Int) → (0 : Int) ≤ p j ∧ p j ≤ w.8) ∧
          m = m ∧
            (∀ (i : Nat), i < m → ((fun i => i6 (p i)) i).den = ((fun i => i6 (p i)) i).den ∧ True) ∧
              (0 : Nat) = (0 : Nat) ∧
                (0 : Nat) = (0 : Nat) ∧
                  false = false ∧
                    m = m ∧
                      (∀ (i : Nat), i < m → ((fun i => i6 (p i)) i).den = ((fun i => i6 (p i)) i).den ∧ True) ∧
                        (↑m : Int) = (↑m : Int) ∧
                          (0 : Int) = (↑(Int.toNat (0 : Int)) : Int) ∧
                            w.1 = w.1 ∧
                              w.2 = w.2 ∧
                                w.3 = w.3 ∧
                                  w.4 = w.4 ∧
                                    w.5 = w.5 ∧
                                      (∀ (i : Nat),
                                          i < w.5 →
                                            ((fun i => SV.agg [i6 (w.dl i), i6 (w.dh i)]) i).den =
                                                ((fun i => SV.agg [i6 (w.dl i), i6 (w.dh i)]) i).den ∧
                                              True ∧ True ∧ True) ∧
                                        w.8 = w.8 ∧ w.9 = w.9 ∧ w.10 = w.10 ∧ w.11 = w.11 ∧ w.12 = w.12 ∧ True) ∧
        ∀ (z : Nat),
          (z ≤ m ∧ ∀ (j : Nat), j < z → (0 : Int) ≤ p j ∧ p j ≤ w.8) →
            ((↑z : Int) < (↑m : Int) →
                (0 : Int) ≤ (↑z : Int) ∧
                  (↑z : Int) < (↑m : Int) ∧
                    (0 : Nat) < nat_lit 1 ∧
                      (¬((0 : Int) ≤ p (↑z : Int).toNat ∧ p (↑z : Int).toNat ≤ w.8) →
                          (false = true ↔
                              (↑m : Int) = (↑w.5 : Int) ∧ ∀ (i : Nat), i < m → (0 : Int) ≤ p i ∧ p i ≤ w.ret) ∧
                            True) ∧
                        (¬¬((0 : Int) ≤ p (↑z : Int).toNat ∧ p (↑z : Int).toNat ≤ w.8) →
                          ((-9223372036854775808 : Int) ≤ (↑z : Int) + (1 : Int) ∧
                              (↑z : Int) + (1 : Int) ≤ (9223372036854775807 : Int)) ∧
                            (((↑z : Int) + (1 : Int)).toNat ≤ m ∧
                                ∀ (j : Nat), j < ((↑z : Int) + (1 : Int)).toNat → (0 : Int) ≤ p j ∧ p j ≤ w.8) ∧
                              m - ((↑z : Int) + (1 : Int)).toNat < m - z ∧
                                m = m ∧
                                  (∀ (i : Nat),
                                      i < m → ((fun i => i6 (p i)) i).den = ((fun i => i6 (p i)) i).den ∧ True) ∧
                                    (0 : Nat) = (0 : Nat) ∧
                                      (0 : Nat) = (0 : Nat) ∧
                                        false = false ∧
                                          m = m ∧
                                            (∀ (i : Nat),
                                                i < m →
                                                  ((fun i => i6 (p i)) i).den = ((fun i => i6 (p i)) i).den ∧ True) ∧
                                              (↑m : Int) = (↑m : Int) ∧
                                                (↑z : Int) + (1 : Int) = (↑((↑z : Int) + (1 : Int)).toNat : Int) ∧
                                                  w.1 = w.1 ∧
                                                    w.2 = w.2 ∧
                                                      w.3 = w.3 ∧
                                                        w.4 = w.4 ∧
                                                          w.5 = w.5 ∧
                                                            (∀ (i : Nat),
                                                                i < w.5 →
                                                                  ((fun i => SV.agg [i6 (w.dl i), i6 (w.dh i)]) i).den =
                                                                      ((fun i => SV.agg [i6 (w.dl i), i6 (w.dh i)])
                                                                          i).den ∧
                                                                    True ∧ True ∧ True) ∧
                                                              w.8 = w.8 ∧
                                                                w.9 = w.9 ∧
                                                                  w.10 = w.10 ∧ w.11 = w.11 ∧ w.12 = w.12 ∧ True)) ∧
              (¬(↑z : Int) < (↑m : Int) →
                (true = true ↔ (↑m : Int) = (↑w.5 : Int) ∧ ∀ (i : Nat), i < m → (0 : Int) ≤ p i ∧ p i ≤ w.ret) ∧ True))) := by kernel_rfl
theorem watchG_vc (w : Wt) : watchG w =
  (((Int.toNat (0 : Int) ≤ w.5 ∧
      ∀ (j : Nat), j < Int.toNat (0 : Int) → (0 : Int) ≤ w.6 j ∧ w.6 j ≤ w.7 j ∧ w.7 j ≤ (1073741824 : Int)) ∧
    (0 : Nat) = (0 : Nat) ∧
      (0 : Nat) = (0 : Nat) ∧
        false = false ∧
          (0 : Int) = (↑(Int.toNat (0 : Int)) : Int) ∧
            w.1 = w.1 ∧
              w.2 = w.2 ∧
                w.3 = w.3 ∧
                  w.4 = w.4 ∧
                    w.5 = w.5 ∧
                      (∀ (i : Nat),
                          i < w.5 →
                            ((fun i => SV.agg [i6 (w.dl i), i6 (w.dh i)]) i).den =
                                ((fun i => SV.agg [i6 (w.dl i), i6 (w.dh i)]) i).den ∧
                              True ∧ True ∧ True) ∧
                        w.8 = w.8 ∧ w.9 = w.9 ∧ w.10 = w.10 ∧ w.11 = w.11 ∧ w.12 = w.12 ∧ True) ∧
  ∀ (z : Nat),
    (z ≤ w.5 ∧ ∀ (j : Nat), j < z → (0 : Int) ≤ w.6 j ∧ w.6 j ≤ w.7 j ∧ w.7 j ≤ (1073741824 : Int)) →
      (0 : Nat) < nat_lit 1 ∧
        ((↑z : Int) < (↑w.5 : Int) →
            ((↑z : Int) ≤ (12 : Int) →
                (0 : Nat) < nat_lit 1 ∧
                  (0 : Int) ≤ (↑z : Int) ∧
                    (↑z : Int) < (↑w.5 : Int) ∧
                      (¬((0 : Int) ≤ w.6 (↑z : Int).toNat ∧
                              w.6 (↑z : Int).toNat ≤ w.7 (↑z : Int).toNat ∧ w.7 (↑z : Int).toNat ≤ (1073741824 : Int)) →
                          (false = true ↔
                              ((((0 : Int) ≤ w.1 ∧ w.1 ≤ (1073741824 : Int)) ∧
                                    ((0 : Int) ≤ w.2 ∧ w.2 ≤ w.1) ∧
                                      ((0 : Int) ≤ w.3 ∧ w.3 ≤ w.4 ∧ w.4 ≤ (1073741824 : Int)) ∧
                                        (↑w.5 : Int) ≤ (12 : Int)) ∧
                                  ((0 : Int) ≤ w.8 ∧ w.8 ≤ (4 : Int)) ∧
                                    ((0 : Int) ≤ w.9 ∧ w.9 ≤ w.8) ∧
                                      ((0 : Int) ≤ w.10 ∧ w.10 ≤ (1073741824 : Int)) ∧
                                        ((0 : Int) ≤ w.11 ∧ w.11 ≤ (10000 : Int)) ∧
                                          (0 : Int) ≤ w.12 ∧ w.12 ≤ (10000 : Int)) ∧
                                ∀ (i : Nat), i < w.n → okD w i) ∧
                            True) ∧
                        (¬¬((0 : Int) ≤ w.6 (↑z : Int).toNat ∧
                                w.6 (↑z : Int).toNat ≤ w.7 (↑z : Int).toNat ∧
                                  w.7 (↑z : Int).toNat ≤ (1073741824 : Int)) →
                          ((-9223372036854775808 : Int) ≤ (↑z : Int) + (1 : Int) ∧
                              (↑z : Int) + (1 : Int) ≤ (9223372036854775807 : Int)) ∧
                            (((↑z : Int) + (1 : Int)).toNat ≤ w.5 ∧
                                ∀ (j : Nat),
                                  j < ((↑z : Int) + (1 : Int)).toNat →
                                    (0 : Int) ≤ w.6 j ∧ w.6 j ≤ w.7 j ∧ w.7 j ≤ (1073741824 : Int)) ∧
                              w.5 - ((↑z : Int) + (1 : Int)).toNat < w.5 - z ∧
                                (0 : Nat) = (0 : Nat) ∧
                                  (0 : Nat) = (0 : Nat) ∧
                                    false = false ∧
                                      (↑z : Int) + (1 : Int) = (↑((↑z : Int) + (1 : Int)).toNat : Int) ∧
                                        w.1 = w.1 ∧
                                          w.2 = w.2 ∧
                                            w.3 = w.3 ∧
                                              w.4 = w.4 ∧
                                                w.5 = w.5 ∧
                                                  (∀ (i : Nat),
                                                      i < w.5 →
                                                        ((fun i => SV.agg [i6 (w.dl i), i6 (w.dh i)]) i).den =
                                                            ((fun i => SV.agg [i6 (w.dl i), i6 (w.dh i)]) i).den ∧
                                                          True ∧ True ∧ True) ∧
                                                    w.8 = w.8 ∧
                                                      w.9 = w.9 ∧ w.10 = w.10 ∧ w.11 = w.11 ∧ w.12 = w.12 ∧ True)) ∧
              (¬(↑z : Int) ≤ (12 : Int) →
                (0 : Nat) < nat_lit 1 ∧
                  ((0 : Int) ≤ w.1 ∧ w.1 ≤ (1073741824 : Int) →
                      (0 : Nat) < nat_lit 1 ∧
                        (0 : Nat) < nat_lit 1 ∧
                          ((0 : Int) ≤ w.2 ∧ w.2 ≤ w.1 →
                              (0 : Nat) < nat_lit 1 ∧
                                ((0 : Int) ≤ w.3 ∧ w.3 ≤ w.4 ∧ w.4 ≤ (1073741824 : Int) →
                                    (0 : Nat) < nat_lit 1 ∧
                                      ((↑w.5 : Int) ≤ (12 : Int) →
                                          (0 : Nat) < nat_lit 1 ∧
                                            ((0 : Int) ≤ w.8 ∧ w.8 ≤ (4 : Int) →
                                                (0 : Nat) < nat_lit 1 ∧
                                                  (0 : Nat) < nat_lit 1 ∧
                                                    ((0 : Int) ≤ w.9 ∧ w.9 ≤ w.8 →
                                                        (0 : Nat) < nat_lit 1 ∧
                                                          ((0 : Int) ≤ w.10 ∧ w.10 ≤ (1073741824 : Int) →
                                                              (0 : Nat) < nat_lit 1 ∧
                                                                ((0 : Int) ≤ w.11 ∧ w.11 ≤ (10000 : Int) →
                                                                    (0 : Nat) < nat_lit 1 ∧
                                                                      ((0 : Int) ≤ w.12 ∧ w.12 ≤ (10000 : Int) ↔
                                                                          ((((0 : Int) ≤ w.1 ∧
                                                                                  w.1 ≤ (1073741824 : Int)) ∧
                                                                                ((0 : Int) ≤ w.2 ∧ w.2 ≤ w.1) ∧
                                                                                  ((0 : Int) ≤ w.3 ∧
                                                                                      w.3 ≤ w.4 ∧
                                                                                        w.4 ≤ (1073741824 : Int)) ∧
                                                                                    (↑w.5 : Int) ≤ (12 : Int)) ∧
                                                                              ((0 : Int) ≤ w.8 ∧ w.8 ≤ (4 : Int)) ∧
                                                                                ((0 : Int) ≤ w.9 ∧ w.9 ≤ w.8) ∧
                                                                                  ((0 : Int) ≤ w.10 ∧
                                                                                      w.10 ≤ (1073741824 : Int)) ∧
                                                                                    ((0 : Int) ≤ w.11 ∧
                                                                                        w.11 ≤ (10000 : Int)) ∧
                                                                                      (0 : Int) ≤ w.12 ∧
                                                                                        w.12 ≤ (10000 : Int)) ∧
                                                                            ∀ (i : Nat), i < w.n → okD w i) ∧
                                                                        True) ∧
                                                                  (¬((0 : Int) ≤ w.11 ∧ w.11 ≤ (10000 : Int)) →
                                                                    (false = true ↔
                                                                        ((((0 : Int) ≤ w.1 ∧ w.1 ≤ (1073741824 : Int)) ∧
                                                                              ((0 : Int) ≤ w.2 ∧ w.2 ≤ w.1) ∧
                                                                                ((0 : Int) ≤ w.3 ∧
                                                                                    w.3 ≤ w.4 ∧
                                                                                      w.4 ≤ (1073741824 : Int)) ∧
                                                                                  (↑w.5 : Int) ≤ (12 : Int)) ∧
                                                                            ((0 : Int) ≤ w.8 ∧ w.8 ≤ (4 : Int)) ∧
                                                                              ((0 : Int) ≤ w.9 ∧ w.9 ≤ w.8) ∧
                                                                                ((0 : Int) ≤ w.10 ∧
                                                                                    w.10 ≤ (1073741824 : Int)) ∧
                                                                                  ((0 : Int) ≤ w.11 ∧
                                                                                      w.11 ≤ (10000 : Int)) ∧
                                                                                    (0 : Int) ≤ w.12 ∧
                                                                                      w.12 ≤ (10000 : Int)) ∧
                                                                          ∀ (i : Nat), i < w.n → okD w i) ∧
                                                                      True)) ∧
                                                            (¬((0 : Int) ≤ w.10 ∧ w.10 ≤ (1073741824 : Int)) →
                                                              (false = true ↔
                                                                  ((((0 : Int) ≤ w.1 ∧ w.1 ≤ (1073741824 : Int)) ∧
                                                                        ((0 : Int) ≤ w.2 ∧ w.2 ≤ w.1) ∧
                                                                          ((0 : Int) ≤ w.3 ∧
                                                                              w.3 ≤ w.4 ∧ w.4 ≤ (1073741824 : Int)) ∧
                                                                            (↑w.5 : Int) ≤ (12 : Int)) ∧
                                                                      ((0 : Int) ≤ w.8 ∧ w.8 ≤ (4 : Int)) ∧
                                                                        ((0 : Int) ≤ w.9 ∧ w.9 ≤ w.8) ∧
                                                                          ((0 : Int) ≤ w.10 ∧
                                                                              w.10 ≤ (1073741824 : Int)) ∧
                                                                            ((0 : Int) ≤ w.11 ∧ w.11 ≤ (10000 : Int)) ∧
                                                                              (0 : Int) ≤ w.12 ∧ w.12 ≤ (10000 : Int)) ∧
                                                                    ∀ (i : Nat), i < w.n → okD w i) ∧
                                                                True)) ∧
                                                      (¬((0 : Int) ≤ w.9 ∧ w.9 ≤ w.8) →
                                                        (false = true ↔
                                                            ((((0 : Int) ≤ w.1 ∧ w.1 ≤ (1073741824 : Int)) ∧
                                                                  ((0 : Int) ≤ w.2 ∧ w.2 ≤ w.1) ∧
                                                                    ((0 : Int) ≤ w.3 ∧
                                                                        w.3 ≤ w.4 ∧ w.4 ≤ (1073741824 : Int)) ∧
                                                                      (↑w.5 : Int) ≤ (12 : Int)) ∧
                                                                ((0 : Int) ≤ w.8 ∧ w.8 ≤ (4 : Int)) ∧
                                                                  ((0 : Int) ≤ w.9 ∧ w.9 ≤ w.8) ∧
                                                                    ((0 : Int) ≤ w.10 ∧ w.10 ≤ (1073741824 : Int)) ∧
                                                                      ((0 : Int) ≤ w.11 ∧ w.11 ≤ (10000 : Int)) ∧
                                                                        (0 : Int) ≤ w.12 ∧ w.12 ≤ (10000 : Int)) ∧
                                                              ∀ (i : Nat), i < w.n → okD w i) ∧
                                                          True)) ∧
                                              (¬((0 : Int) ≤ w.8 ∧ w.8 ≤ (4 : Int)) →
                                                (false = true ↔
                                                    ((((0 : Int) ≤ w.1 ∧ w.1 ≤ (1073741824 : Int)) ∧
                                                          ((0 : Int) ≤ w.2 ∧ w.2 ≤ w.1) ∧
                                                            ((0 : Int) ≤ w.3 ∧ w.3 ≤ w.4 ∧ w.4 ≤ (1073741824 : Int)) ∧
                                                              (↑w.5 : Int) ≤ (12 : Int)) ∧
                                                        ((0 : Int) ≤ w.8 ∧ w.8 ≤ (4 : Int)) ∧
                                                          ((0 : Int) ≤ w.9 ∧ w.9 ≤ w.8) ∧
                                                            ((0 : Int) ≤ w.10 ∧ w.10 ≤ (1073741824 : Int)) ∧
                                                              ((0 : Int) ≤ w.11 ∧ w.11 ≤ (10000 : Int)) ∧
                                                                (0 : Int) ≤ w.12 ∧ w.12 ≤ (10000 : Int)) ∧
                                                      ∀ (i : Nat), i < w.n → okD w i) ∧
                                                  True)) ∧
                                        (¬(↑w.5 : Int) ≤ (12 : Int) →
                                          (false = true ↔
                                              ((((0 : Int) ≤ w.1 ∧ w.1 ≤ (1073741824 : Int)) ∧
                                                    ((0 : Int) ≤ w.2 ∧ w.2 ≤ w.1) ∧
                                                      ((0 : Int) ≤ w.3 ∧ w.3 ≤ w.4 ∧ w.4 ≤ (1073741824 : Int)) ∧
                                                        (↑w.5 : Int) ≤ (12 : Int)) ∧
                                                  ((0 : Int) ≤ w.8 ∧ w.8 ≤ (4 : Int)) ∧
                                                    ((0 : Int) ≤ w.9 ∧ w.9 ≤ w.8) ∧
                                                      ((0 : Int) ≤ w.10 ∧ w.10 ≤ (1073741824 : Int)) ∧
                                                        ((0 : Int) ≤ w.11 ∧ w.11 ≤ (10000 : Int)) ∧
                                                          (0 : Int) ≤ w.12 ∧ w.12 ≤ (10000 : Int)) ∧
                                                ∀ (i : Nat), i < w.n → okD w i) ∧
                                            True)) ∧
                                  (¬((0 : Int) ≤ w.3 ∧ w.3 ≤ w.4 ∧ w.4 ≤ (1073741824 : Int)) →
                                    (false = true ↔
                                        ((((0 : Int) ≤ w.1 ∧ w.1 ≤ (1073741824 : Int)) ∧
                                              ((0 : Int) ≤ w.2 ∧ w.2 ≤ w.1) ∧
                                                ((0 : Int) ≤ w.3 ∧ w.3 ≤ w.4 ∧ w.4 ≤ (1073741824 : Int)) ∧
                                                  (↑w.5 : Int) ≤ (12 : Int)) ∧
                                            ((0 : Int) ≤ w.8 ∧ w.8 ≤ (4 : Int)) ∧
                                              ((0 : Int) ≤ w.9 ∧ w.9 ≤ w.8) ∧
                                                ((0 : Int) ≤ w.10 ∧ w.10 ≤ (1073741824 : Int)) ∧
                                                  ((0 : Int) ≤ w.11 ∧ w.11 ≤ (10000 : Int)) ∧
                                                    (0 : Int) ≤ w.12 ∧ w.12 ≤ (10000 : Int)) ∧
                                          ∀ (i : Nat), i < w.n → okD w i) ∧
                                      True)) ∧
                            (¬((0 : Int) ≤ w.2 ∧ w.2 ≤ w.1) →
                              (false = true ↔
                                  ((((0 : Int) ≤ w.1 ∧ w.1 ≤ (1073741824 : Int)) ∧
                                        ((0 : Int) ≤ w.2 ∧ w.2 ≤ w.1) ∧
                                          ((0 : Int) ≤ w.3 ∧ w.3 ≤ w.4 ∧ w.4 ≤ (1073741824 : Int)) ∧
                                            (↑w.5 : Int) ≤ (12 : Int)) ∧
                                      ((0 : Int) ≤ w.8 ∧ w.8 ≤ (4 : Int)) ∧
                                        ((0 : Int) ≤ w.9 ∧ w.9 ≤ w.8) ∧
                                          ((0 : Int) ≤ w.10 ∧ w.10 ≤ (1073741824 : Int)) ∧
                                            ((0 : Int) ≤ w.11 ∧ w.11 ≤ (10000 : Int)) ∧
                                              (0 : Int) ≤ w.12 ∧ w.12 ≤ (10000 : Int)) ∧
                                    ∀ (i : Nat), i < w.n → okD w i) ∧
                                True)) ∧
                    (¬((0 : Int) ≤ w.1 ∧ w.1 ≤ (1073741824 : Int)) →
                      (false = true ↔
                          ((((0 : Int) ≤ w.1 ∧ w.1 ≤ (1073741824 : Int)) ∧
                                ((0 : Int) ≤ w.2 ∧ w.2 ≤ w.1) ∧
                                  ((0 : Int) ≤ w.3 ∧ w.3 ≤ w.4 ∧ w.4 ≤ (1073741824 : Int)) ∧
                                    (↑w.5 : Int) ≤ (12 : Int)) ∧
                              ((0 : Int) ≤ w.8 ∧ w.8 ≤ (4 : Int)) ∧
                                ((0 : Int) ≤ w.9 ∧ w.9 ≤ w.8) ∧
                                  ((0 : Int) ≤ w.10 ∧ w.10 ≤ (1073741824 : Int)) ∧
                                    ((0 : Int) ≤ w.11 ∧ w.11 ≤ (10000 : Int)) ∧
                                      (0 : Int) ≤ w.12 ∧ w.12 ≤ (10000 : Int)) ∧
                            ∀ (i : Nat), i < w.n → okD w i) ∧
                        True))) ∧
          (¬(↑z : Int) < (↑w.5 : Int) →
            (0 : Nat) < nat_lit 1 ∧
              ((0 : Int) ≤ w.1 ∧ w.1 ≤ (1073741824 : Int) →
                  (0 : Nat) < nat_lit 1 ∧
                    (0 : Nat) < nat_lit 1 ∧
                      ((0 : Int) ≤ w.2 ∧ w.2 ≤ w.1 →
                          (0 : Nat) < nat_lit 1 ∧
                            ((0 : Int) ≤ w.3 ∧ w.3 ≤ w.4 ∧ w.4 ≤ (1073741824 : Int) →
                                (0 : Nat) < nat_lit 1 ∧
                                  ((↑w.5 : Int) ≤ (12 : Int) →
                                      (0 : Nat) < nat_lit 1 ∧
                                        ((0 : Int) ≤ w.8 ∧ w.8 ≤ (4 : Int) →
                                            (0 : Nat) < nat_lit 1 ∧
                                              (0 : Nat) < nat_lit 1 ∧
                                                ((0 : Int) ≤ w.9 ∧ w.9 ≤ w.8 →
                                                    (0 : Nat) < nat_lit 1 ∧
                                                      ((0 : Int) ≤ w.10 ∧ w.10 ≤ (1073741824 : Int) →
                                                          (0 : Nat) < nat_lit 1 ∧
                                                            ((0 : Int) ≤ w.11 ∧ w.11 ≤ (10000 : Int) →
                                                                (0 : Nat) < nat_lit 1 ∧
                                                                  ((0 : Int) ≤ w.12 ∧ w.12 ≤ (10000 : Int) ↔
                                                                      ((((0 : Int) ≤ w.1 ∧ w.1 ≤ (1073741824 : Int)) ∧
                                                                            ((0 : Int) ≤ w.2 ∧ w.2 ≤ w.1) ∧
                                                                              ((0 : Int) ≤ w.3 ∧
                                                                                  w.3 ≤ w.4 ∧
                                                                                    w.4 ≤ (1073741824 : Int)) ∧
                                                                                (↑w.5 : Int) ≤ (12 : Int)) ∧
                                                                          ((0 : Int) ≤ w.8 ∧ w.8 ≤ (4 : Int)) ∧
                                                                            ((0 : Int) ≤ w.9 ∧ w.9 ≤ w.8) ∧
                                                                              ((0 : Int) ≤ w.10 ∧
                                                                                  w.10 ≤ (1073741824 : Int)) ∧
                                                                                ((0 : Int) ≤ w.11 ∧
                                                                                    w.11 ≤ (10000 : Int)) ∧
                                                                                  (0 : Int) ≤ w.12 ∧
                                                                                    w.12 ≤ (10000 : Int)) ∧
                                                                        ∀ (i : Nat), i < w.n → okD w i) ∧
                                                                    True) ∧
                                                              (¬((0 : Int) ≤ w.11 ∧ w.11 ≤ (10000 : Int)) →
                                                                (false = true ↔
                                                                    ((((0 : Int) ≤ w.1 ∧ w.1 ≤ (1073741824 : Int)) ∧
                                                                          ((0 : Int) ≤ w.2 ∧ w.2 ≤ w.1) ∧
                                                                            ((0 : Int) ≤ w.3 ∧
                                                                                w.3 ≤ w.4 ∧ w.4 ≤ (1073741824 : Int)) ∧
                                                                              (↑w.5 : Int) ≤ (12 : Int)) ∧
                                                                        ((0 : Int) ≤ w.8 ∧ w.8 ≤ (4 : Int)) ∧
                                                                          ((0 : Int) ≤ w.9 ∧ w.9 ≤ w.8) ∧
                                                                            ((0 : Int) ≤ w.10 ∧
                                                                                w.10 ≤ (1073741824 : Int)) ∧
                                                                              ((0 : Int) ≤ w.11 ∧
                                                                                  w.11 ≤ (10000 : Int)) ∧
                                                                                (0 : Int) ≤ w.12 ∧
                                                                                  w.12 ≤ (10000 : Int)) ∧
                                                                      ∀ (i : Nat), i < w.n → okD w i) ∧
                                                                  True)) ∧
                                                        (¬((0 : Int) ≤ w.10 ∧ w.10 ≤ (1073741824 : Int)) →
                                                          (false = true ↔
                                                              ((((0 : Int) ≤ w.1 ∧ w.1 ≤ (1073741824 : Int)) ∧
                                                                    ((0 : Int) ≤ w.2 ∧ w.2 ≤ w.1) ∧
                                                                      ((0 : Int) ≤ w.3 ∧
                                                                          w.3 ≤ w.4 ∧ w.4 ≤ (1073741824 : Int)) ∧
                                                                        (↑w.5 : Int) ≤ (12 : Int)) ∧
                                                                  ((0 : Int) ≤ w.8 ∧ w.8 ≤ (4 : Int)) ∧
                                                                    ((0 : Int) ≤ w.9 ∧ w.9 ≤ w.8) ∧
                                                                      ((0 : Int) ≤ w.10 ∧ w.10 ≤ (1073741824 : Int)) ∧
                                                                        ((0 : Int) ≤ w.11 ∧ w.11 ≤ (10000 : Int)) ∧
                                                                          (0 : Int) ≤ w.12 ∧ w.12 ≤ (10000 : Int)) ∧
                                                                ∀ (i : Nat), i < w.n → okD w i) ∧
                                                            True)) ∧
                                                  (¬((0 : Int) ≤ w.9 ∧ w.9 ≤ w.8) →
                                                    (false = true ↔
                                                        ((((0 : Int) ≤ w.1 ∧ w.1 ≤ (1073741824 : Int)) ∧
                                                              ((0 : Int) ≤ w.2 ∧ w.2 ≤ w.1) ∧
                                                                ((0 : Int) ≤ w.3 ∧
                                                                    w.3 ≤ w.4 ∧ w.4 ≤ (1073741824 : Int)) ∧
                                                                  (↑w.5 : Int) ≤ (12 : Int)) ∧
                                                            ((0 : Int) ≤ w.8 ∧ w.8 ≤ (4 : Int)) ∧
                                                              ((0 : Int) ≤ w.9 ∧ w.9 ≤ w.8) ∧
                                                                ((0 : Int) ≤ w.10 ∧ w.10 ≤ (1073741824 : Int)) ∧
                                                                  ((0 : Int) ≤ w.11 ∧ w.11 ≤ (10000 : Int)) ∧
                                                                    (0 : Int) ≤ w.12 ∧ w.12 ≤ (10000 : Int)) ∧
                                                          ∀ (i : Nat), i < w.n → okD w i) ∧
                                                      True)) ∧
                                          (¬((0 : Int) ≤ w.8 ∧ w.8 ≤ (4 : Int)) →
                                            (false = true ↔
                                                ((((0 : Int) ≤ w.1 ∧ w.1 ≤ (1073741824 : Int)) ∧
                                                      ((0 : Int) ≤ w.2 ∧ w.2 ≤ w.1) ∧
                                                        ((0 : Int) ≤ w.3 ∧ w.3 ≤ w.4 ∧ w.4 ≤ (1073741824 : Int)) ∧
                                                          (↑w.5 : Int) ≤ (12 : Int)) ∧
                                                    ((0 : Int) ≤ w.8 ∧ w.8 ≤ (4 : Int)) ∧
                                                      ((0 : Int) ≤ w.9 ∧ w.9 ≤ w.8) ∧
                                                        ((0 : Int) ≤ w.10 ∧ w.10 ≤ (1073741824 : Int)) ∧
                                                          ((0 : Int) ≤ w.11 ∧ w.11 ≤ (10000 : Int)) ∧
                                                            (0 : Int) ≤ w.12 ∧ w.12 ≤ (10000 : Int)) ∧
                                                  ∀ (i : Nat), i < w.n → okD w i) ∧
                                              True)) ∧
                                    (¬(↑w.5 : Int) ≤ (12 : Int) →
                                      (false = true ↔
                                          ((((0 : Int) ≤ w.1 ∧ w.1 ≤ (1073741824 : Int)) ∧
                                                ((0 : Int) ≤ w.2 ∧ w.2 ≤ w.1) ∧
                                                  ((0 : Int) ≤ w.3 ∧ w.3 ≤ w.4 ∧ w.4 ≤ (1073741824 : Int)) ∧
                                                    (↑w.5 : Int) ≤ (12 : Int)) ∧
                                              ((0 : Int) ≤ w.8 ∧ w.8 ≤ (4 : Int)) ∧
                                                ((0 : Int) ≤ w.9 ∧ w.9 ≤ w.8) ∧
                                                  ((0 : Int) ≤ w.10 ∧ w.10 ≤ (1073741824 : Int)) ∧
                                                    ((0 : Int) ≤ w.11 ∧ w.11 ≤ (10000 : Int)) ∧
                                                      (0 : Int) ≤ w.12 ∧ w.12 ≤ (10000 : Int)) ∧
                                            ∀ (i : Nat), i < w.n → okD w i) ∧
                                        True)) ∧
                              (¬((0 : Int) ≤ w.3 ∧ w.3 ≤ w.4 ∧ w.4 ≤ (1073741824 : Int)) →
                                (false = true ↔
                                    ((((0 : Int) ≤ w.1 ∧ w.1 ≤ (1073741824 : Int)) ∧
                                          ((0 : Int) ≤ w.2 ∧ w.2 ≤ w.1) ∧
                                            ((0 : Int) ≤ w.3 ∧ w.3 ≤ w.4 ∧ w.4 ≤ (1073741824 : Int)) ∧
                                              (↑w.5 : Int) ≤ (12 : Int)) ∧
                                        ((0 : Int) ≤ w.8 ∧ w.8 ≤ (4 : Int)) ∧
                                          ((0 : Int) ≤ w.9 ∧ w.9 ≤ w.8) ∧
                                            ((0 : Int) ≤ w.10 ∧ w.10 ≤ (1073741824 : Int)) ∧
                                              ((0 : Int) ≤ w.11 ∧ w.11 ≤ (10000 : Int)) ∧
                                                (0 : Int) ≤ w.12 ∧ w.12 ≤ (10000 : Int)) ∧
                                      ∀ (i : Nat), i < w.n → okD w i) ∧
                                  True)) ∧
                        (¬((0 : Int) ≤ w.2 ∧ w.2 ≤ w.1) →
                          (false = true ↔
                              ((((0 : Int) ≤ w.1 ∧ w.1 ≤ (1073741824 : Int)) ∧
                                    ((0 : Int) ≤ w.2 ∧ w.2 ≤ w.1) ∧
                                      ((0 : Int) ≤ w.3 ∧ w.3 ≤ w.4 ∧ w.4 ≤ (1073741824 : Int)) ∧
                                        (↑w.5 : Int) ≤ (12 : Int)) ∧
                                  ((0 : Int) ≤ w.8 ∧ w.8 ≤ (4 : Int)) ∧
                                    ((0 : Int) ≤ w.9 ∧ w.9 ≤ w.8) ∧
                                      ((0 : Int) ≤ w.10 ∧ w.10 ≤ (1073741824 : Int)) ∧
                                        ((0 : Int) ≤ w.11 ∧ w.11 ≤ (10000 : Int)) ∧
                                          (0 : Int) ≤ w.12 ∧ w.12 ≤ (10000 : Int)) ∧
                                ∀ (i : Nat), i < w.n → okD w i) ∧
                            True)) ∧
                (¬((0 : Int) ≤ w.1 ∧ w.1 ≤ (1073741824 : Int)) →
                  (false = true ↔
                      ((((0 : Int) ≤ w.1 ∧ w.1 ≤ (1073741824 : Int)) ∧
                            ((0 : Int) ≤ w.2 ∧ w.2 ≤ w.1) ∧
                              ((0 : Int) ≤ w.3 ∧ w.3 ≤ w.4 ∧ w.4 ≤ (1073741824 : Int)) ∧ (↑w.5 : Int) ≤ (12 : Int)) ∧
                          ((0 : Int) ≤ w.8 ∧ w.8 ≤ (4 : Int)) ∧
                            ((0 : Int) ≤ w.9 ∧ w.9 ≤ w.8) ∧
                              ((0 : Int) ≤ w.10 ∧ w.10 ≤ (1073741824 : Int)) ∧
                                ((0 : Int) ≤ w.11 ∧ w.11 ≤ (10000 : Int)) ∧ (0 : Int) ≤ w.12 ∧ w.12 ≤ (10000 : Int)) ∧
                        ∀ (i : Nat), i < w.n → okD w i) ∧
                    True))) := by kernel_rfl
theorem watchG2_vc (w : Wt) : watchG' w =
  ((0 : Nat) < nat_lit 1 ∧
  (¬((0 : Int) ≤ w.1 ∧ w.1 ≤ (1073741824 : Int)) →
      (false = true ↔
          ((((0 : Int) ≤ w.1 ∧ w.1 ≤ (1073741824 : Int)) ∧
                ((0 : Int) ≤ w.2 ∧ w.2 ≤ w.1) ∧
                  ((0 : Int) ≤ w.3 ∧ w.3 ≤ w.4 ∧ w.4 ≤ (1073741824 : Int)) ∧ (↑w.5 : Int) ≤ (12 : Int)) ∧
              ((0 : Int) ≤ w.8 ∧ w.8 ≤ (4 : Int)) ∧
                ((0 : Int) ≤ w.9 ∧ w.9 ≤ w.8) ∧
                  ((0 : Int) ≤ w.10 ∧ w.10 ≤ (1073741824 : Int)) ∧
                    ((0 : Int) ≤ w.11 ∧ w.11 ≤ (10000 : Int)) ∧ (0 : Int) ≤ w.12 ∧ w.12 ≤ (10000 : Int)) ∧
            ∀ (i : Nat), i < w.n → okD w i) ∧
        True) ∧
    (¬¬((0 : Int) ≤ w.1 ∧ w.1 ≤ (1073741824 : Int)) →
      (0 : Nat) < nat_lit 1 ∧
        (0 : Nat) < nat_lit 1 ∧
          (¬((0 : Int) ≤ w.2 ∧ w.2 ≤ w.1) →
              (false = true ↔
                  ((((0 : Int) ≤ w.1 ∧ w.1 ≤ (1073741824 : Int)) ∧
                        ((0 : Int) ≤ w.2 ∧ w.2 ≤ w.1) ∧
                          ((0 : Int) ≤ w.3 ∧ w.3 ≤ w.4 ∧ w.4 ≤ (1073741824 : Int)) ∧ (↑w.5 : Int) ≤ (12 : Int)) ∧
                      ((0 : Int) ≤ w.8 ∧ w.8 ≤ (4 : Int)) ∧
                        ((0 : Int) ≤ w.9 ∧ w.9 ≤ w.8) ∧
                          ((0 : Int) ≤ w.10 ∧ w.10 ≤ (1073741824 : Int)) ∧
                            ((0 : Int) ≤ w.11 ∧ w.11 ≤ (10000 : Int)) ∧ (0 : Int) ≤ w.12 ∧ w.12 ≤ (10000 : Int)) ∧
                    ∀ (i : Nat), i < w.n → okD w i) ∧
                True) ∧
            (¬¬((0 : Int) ≤ w.2 ∧ w.2 ≤ w.1) →
              (0 : Nat) < nat_lit 1 ∧
                (¬((0 : Int) ≤ w.3 ∧ w.3 ≤ w.4 ∧ w.4 ≤ (1073741824 : Int)) →
                    (false = true ↔
                        ((((0 : Int) ≤ w.1 ∧ w.1 ≤ (1073741824 : Int)) ∧
                              ((0 : Int) ≤ w.2 ∧ w.2 ≤ w.1) ∧
                                ((0 : Int) ≤ w.3 ∧ w.3 ≤ w.4 ∧ w.4 ≤ (1073741824 : Int)) ∧ (↑w.5 : Int) ≤ (12 : Int)) ∧
                            ((0 : Int) ≤ w.8 ∧ w.8 ≤ (4 : Int)) ∧
                              ((0 : Int) ≤ w.9 ∧ w.9 ≤ w.8) ∧
                                ((0 : Int) ≤ w.10 ∧ w.10 ≤ (1073741824 : Int)) ∧
                                  ((0 : Int) ≤ w.11 ∧ w.11 ≤ (10000 : Int)) ∧ (0 : Int) ≤ w.12 ∧ w.12 ≤ (10000 : Int)) ∧
                          ∀ (i : Nat), i < w.n → okD w i) ∧
                      True) ∧
                  (¬¬((0 : Int) ≤ w.3 ∧ w.3 ≤ w.4 ∧ w.4 ≤ (1073741824 : Int)) →
                    (0 : Nat) < nat_lit 1 ∧
                      ((12 : Int) < (↑w.5 : Int) →
                          (false = true ↔
                              ((((0 : Int) ≤ w.1 ∧ w.1 ≤ (1073741824 : Int)) ∧
                                    ((0 : Int) ≤ w.2 ∧ w.2 ≤ w.1) ∧
                                      ((0 : Int) ≤ w.3 ∧ w.3 ≤ w.4 ∧ w.4 ≤ (1073741824 : Int)) ∧
                                        (↑w.5 : Int) ≤ (12 : Int)) ∧
                                  ((0 : Int) ≤ w.8 ∧ w.8 ≤ (4 : Int)) ∧
                                    ((0 : Int) ≤ w.9 ∧ w.9 ≤ w.8) ∧
                                      ((0 : Int) ≤ w.10 ∧ w.10 ≤ (1073741824 : Int)) ∧
                                        ((0 : Int) ≤ w.11 ∧ w.11 ≤ (10000 : Int)) ∧
                                          (0 : Int) ≤ w.12 ∧ w.12 ≤ (10000 : Int)) ∧
                                ∀ (i : Nat), i < w.n → okD w i) ∧
                            True) ∧
                        (¬(12 : Int) < (↑w.5 : Int) →
                          (0 : Nat) < nat_lit 1 ∧
                            ((Int.toNat (0 : Int) ≤ w.5 ∧
                                  ∀ (j : Nat),
                                    j < Int.toNat (0 : Int) →
                                      (0 : Int) ≤ w.6 j ∧ w.6 j ≤ w.7 j ∧ w.7 j ≤ (1073741824 : Int)) ∧
                                (0 : Nat) = (0 : Nat) ∧
                                  (0 : Nat) = (0 : Nat) ∧
                                    false = false ∧
                                      w.5 = w.5 ∧
                                        (∀ (i : Nat),
                                            i < w.5 →
                                              ((fun i => SV.agg [i6 (w.dl i), i6 (w.dh i)]) i).den =
                                                  ((fun i => SV.agg [i6 (w.dl i), i6 (w.dh i)]) i).den ∧
                                                True ∧ True ∧ True) ∧
                                          (↑w.5 : Int) = (↑w.5 : Int) ∧
                                            (0 : Int) = (↑(Int.toNat (0 : Int)) : Int) ∧
                                              w.1 = w.1 ∧
                                                w.2 = w.2 ∧
                                                  w.3 = w.3 ∧
                                                    w.4 = w.4 ∧
                                                      w.5 = w.5 ∧
                                                        (∀ (i : Nat),
                                                            i < w.5 →
                                                              ((fun i => SV.agg [i6 (w.dl i), i6 (w.dh i)]) i).den =
                                                                  ((fun i => SV.agg [i6 (w.dl i), i6 (w.dh i)]) i).den ∧
                                                                True ∧ True ∧ True) ∧
                                                          w.8 = w.8 ∧
                                                            w.9 = w.9 ∧
                                                              w.10 = w.10 ∧ w.11 = w.11 ∧ w.12 = w.12 ∧ True) ∧
                              ∀ (z : Nat),
                                (z ≤ w.5 ∧
                                    ∀ (j : Nat),
                                      j < z → (0 : Int) ≤ w.6 j ∧ w.6 j ≤ w.7 j ∧ w.7 j ≤ (1073741824 : Int)) →
                                  ((↑z : Int) < (↑w.5 : Int) →
                                      (0 : Int) ≤ (↑z : Int) ∧
                                        (↑z : Int) < (↑w.5 : Int) ∧
                                          (0 : Nat) < nat_lit 1 ∧
                                            (¬((0 : Int) ≤ w.6 (↑z : Int).toNat ∧
                                                    w.6 (↑z : Int).toNat ≤ w.7 (↑z : Int).toNat ∧
                                                      w.7 (↑z : Int).toNat ≤ (1073741824 : Int)) →
                                                (false = true ↔
                                                    ((((0 : Int) ≤ w.1 ∧ w.1 ≤ (1073741824 : Int)) ∧
                                                          ((0 : Int) ≤ w.2 ∧ w.2 ≤ w.1) ∧
                                                            ((0 : Int) ≤ w.3 ∧ w.3 ≤ w.4 ∧ w.4 ≤ (1073741824 : Int)) ∧
                                                              (↑w.5 : Int) ≤ (12 : Int)) ∧
                                                        ((0 : Int) ≤ w.8 ∧ w.8 ≤ (4 : Int)) ∧
                                                          ((0 : Int) ≤ w.9 ∧ w.9 ≤ w.8) ∧
                                                            ((0 : Int) ≤ w.10 ∧ w.10 ≤ (1073741824 : Int)) ∧
                                                              ((0 : Int) ≤ w.11 ∧ w.11 ≤ (10000 : Int)) ∧
                                                                (0 : Int) ≤ w.12 ∧ w.12 ≤ (10000 : Int)) ∧
                                                      ∀ (i : Nat), i < w.n → okD w i) ∧
                                                  True) ∧
                                              (¬¬((0 : Int) ≤ w.6 (↑z : Int).toNat ∧
                                                      w.6 (↑z : Int).toNat ≤ w.7 (↑z : Int).toNat ∧
                                                        w.7 (↑z : Int).toNat ≤ (1073741824 : Int)) →
                                                ((-9223372036854775808 : Int) ≤ (↑z : Int) + (1 : Int) ∧
                                                    (↑z : Int) + (1 : Int) ≤ (9223372036854775807 : Int)) ∧
                                                  (((↑z : Int) + (1 : Int)).toNat ≤ w.5 ∧
                                                      ∀ (j : Nat),
                                                        j < ((↑z : Int) + (1 : Int)).toNat →
                                                          (0 : Int) ≤ w.6 j ∧
                                                            w.6 j ≤ w.7 j ∧ w.7 j ≤ (1073741824 : Int)) ∧
                                                    w.5 - ((↑z : Int) + (1 : Int)).toNat < w.5 - z ∧
                                                      (0 : Nat) = (0 : Nat) ∧
                                                        (0 : Nat) = (0 : Nat) ∧
                                                          false = false ∧
                                                            w.5 = w.5 ∧
                                                              (∀ (i : Nat),
                                                                  i < w.5 →
                                                                    ((fun i => SV.agg [i6 (w.dl i), i6 (w.dh i)])
                                                                            i).den =
                                                                        ((fun i => SV.agg [i6 (w.dl i), i6 (w.dh i)])
                                                                            i).den ∧
                                                                      True ∧ True ∧ True) ∧
                                                                (↑w.5 : Int) = (↑w.5 : Int) ∧
                                                                  (↑z : Int) + (1 : Int) =
                                                                      (↑((↑z : Int) + (1 : Int)).toNat : Int) ∧
                                                                    w.1 = w.1 ∧
                                                                      w.2 = w.2 ∧
                                                                        w.3 = w.3 ∧
                                                                          w.4 = w.4 ∧
                                                                            w.5 = w.5 ∧
                                                                              (∀ (i : Nat),
                                                                                  i < w.5 →
                                                                                    ((fun i =>
                                                                                              SV.agg
                                                                                                [i6 (w.dl i),
                                                                                                  i6 (w.dh i)])
                                                                                            i).den =
                                                                                        ((fun i =>
                                                                                              SV.agg
                                                                                                [i6 (w.dl i),
                                                                                                  i6 (w.dh i)])
                                                                                            i).den ∧
                                                                                      True ∧ True ∧ True) ∧
                                                                                w.8 = w.8 ∧
                                                                                  w.9 = w.9 ∧
                                                                                    w.10 = w.10 ∧
                                                                                      w.11 = w.11 ∧
                                                                                        w.12 = w.12 ∧ True)) ∧
                                    (¬(↑z : Int) < (↑w.5 : Int) →
                                      (0 : Nat) < nat_lit 1 ∧
                                        ((0 : Int) ≤ w.8 ∧ w.8 ≤ (4 : Int) →
                                            (0 : Nat) < nat_lit 1 ∧
                                              (0 : Nat) < nat_lit 1 ∧
                                                ((0 : Int) ≤ w.9 ∧ w.9 ≤ w.8 →
                                                    (0 : Nat) < nat_lit 1 ∧
                                                      ((0 : Int) ≤ w.10 ∧ w.10 ≤ (1073741824 : Int) →
                                                          (0 : Nat) < nat_lit 1 ∧
                                                            ((0 : Int) ≤ w.11 ∧ w.11 ≤ (10000 : Int) →
                                                                (0 : Nat) < nat_lit 1 ∧
                                                                  ((0 : Int) ≤ w.12 ∧ w.12 ≤ (10000 : Int) ↔
                                                                      ((((0 : Int) ≤ w.1 ∧ w.1 ≤ (1073741824 : Int)) ∧
                                                                            ((0 : Int) ≤ w.2 ∧ w.2 ≤ w.1) ∧
                                                                              ((0 : Int) ≤ w.3 ∧
                                                                                  w.3 ≤ w.4 ∧
                                                                                    w.4 ≤ (1073741824 : Int)) ∧
                                                                                (↑w.5 : Int) ≤ (12 : Int)) ∧
                                                                          ((0 : Int) ≤ w.8 ∧ w.8 ≤ (4 : Int)) ∧
                                                                            ((0 : Int) ≤ w.9 ∧ w.9 ≤ w.8) ∧
                                                                              ((0 : Int) ≤ w.10 ∧
                                                                                  w.10 ≤ (1073741824 : Int)) ∧
                                                                                ((0 : Int) ≤ w.11 ∧
                                                                                    w.11 ≤ (10000 : Int)) ∧
                                                                                  (0 : Int) ≤ w.12 ∧
                                                                                    w.12 ≤ (10000 : Int)) ∧
                                                                        ∀ (i : Nat), i < w.n → okD w i) ∧
                                                                    True) ∧
                                                              (¬((0 : Int) ≤ w.11 ∧ w.11 ≤ (10000 : Int)) →
                                                                (false = true ↔
                                                                    ((((0 : Int) ≤ w.1 ∧ w.1 ≤ (1073741824 : Int)) ∧
                                                                          ((0 : Int) ≤ w.2 ∧ w.2 ≤ w.1) ∧
                                                                            ((0 : Int) ≤ w.3 ∧
                                                                                w.3 ≤ w.4 ∧ w.4 ≤ (1073741824 : Int)) ∧
                                                                              (↑w.5 : Int) ≤ (12 : Int)) ∧
                                                                        ((0 : Int) ≤ w.8 ∧ w.8 ≤ (4 : Int)) ∧
                                                                          ((0 : Int) ≤ w.9 ∧ w.9 ≤ w.8) ∧
                                                                            ((0 : Int) ≤ w.10 ∧
                                                                                w.10 ≤ (1073741824 : Int)) ∧
                                                                              ((0 : Int) ≤ w.11 ∧
                                                                                  w.11 ≤ (10000 : Int)) ∧
                                                                                (0 : Int) ≤ w.12 ∧
                                                                                  w.12 ≤ (10000 : Int)) ∧
                                                                      ∀ (i : Nat), i < w.n → okD w i) ∧
                                                                  True)) ∧
                                                        (¬((0 : Int) ≤ w.10 ∧ w.10 ≤ (1073741824 : Int)) →
                                                          (false = true ↔
                                                              ((((0 : Int) ≤ w.1 ∧ w.1 ≤ (1073741824 : Int)) ∧
                                                                    ((0 : Int) ≤ w.2 ∧ w.2 ≤ w.1) ∧
                                                                      ((0 : Int) ≤ w.3 ∧
                                                                          w.3 ≤ w.4 ∧ w.4 ≤ (1073741824 : Int)) ∧
                                                                        (↑w.5 : Int) ≤ (12 : Int)) ∧
                                                                  ((0 : Int) ≤ w.8 ∧ w.8 ≤ (4 : Int)) ∧
                                                                    ((0 : Int) ≤ w.9 ∧ w.9 ≤ w.8) ∧
                                                                      ((0 : Int) ≤ w.10 ∧ w.10 ≤ (1073741824 : Int)) ∧
                                                                        ((0 : Int) ≤ w.11 ∧ w.11 ≤ (10000 : Int)) ∧
                                                                          (0 : Int) ≤ w.12 ∧ w.12 ≤ (10000 : Int)) ∧
                                                                ∀ (i : Nat), i < w.n → okD w i) ∧
                                                            True)) ∧
                                                  (¬((0 : Int) ≤ w.9 ∧ w.9 ≤ w.8) →
                                                    (false = true ↔
                                                        ((((0 : Int) ≤ w.1 ∧ w.1 ≤ (1073741824 : Int)) ∧
                                                              ((0 : Int) ≤ w.2 ∧ w.2 ≤ w.1) ∧
                                                                ((0 : Int) ≤ w.3 ∧
                                                                    w.3 ≤ w.4 ∧ w.4 ≤ (1073741824 : Int)) ∧
                                                                  (↑w.5 : Int) ≤ (12 : Int)) ∧
                                                            ((0 : Int) ≤ w.8 ∧ w.8 ≤ (4 : Int)) ∧
                                                              ((0 : Int) ≤ w.9 ∧ w.9 ≤ w.8) ∧
                                                                ((0 : Int) ≤ w.10 ∧ w.10 ≤ (1073741824 : Int)) ∧
                                                                  ((0 : Int) ≤ w.11 ∧ w.11 ≤ (10000 : Int)) ∧
                                                                    (0 : Int) ≤ w.12 ∧ w.12 ≤ (10000 : Int)) ∧
                                                          ∀ (i : Nat), i < w.n → okD w i) ∧
                                                      True)) ∧
                                          (¬((0 : Int) ≤ w.8 ∧ w.8 ≤ (4 : Int)) →
                                            (false = true ↔
                                                ((((0 : Int) ≤ w.1 ∧ w.1 ≤ (1073741824 : Int)) ∧
                                                      ((0 : Int) ≤ w.2 ∧ w.2 ≤ w.1) ∧
                                                        ((0 : Int) ≤ w.3 ∧ w.3 ≤ w.4 ∧ w.4 ≤ (1073741824 : Int)) ∧
                                                          (↑w.5 : Int) ≤ (12 : Int)) ∧
                                                    ((0 : Int) ≤ w.8 ∧ w.8 ≤ (4 : Int)) ∧
                                                      ((0 : Int) ≤ w.9 ∧ w.9 ≤ w.8) ∧
                                                        ((0 : Int) ≤ w.10 ∧ w.10 ≤ (1073741824 : Int)) ∧
                                                          ((0 : Int) ≤ w.11 ∧ w.11 ≤ (10000 : Int)) ∧
                                                            (0 : Int) ≤ w.12 ∧ w.12 ≤ (10000 : Int)) ∧
                                                  ∀ (i : Nat), i < w.n → okD w i) ∧
                                              True))))))) := by kernel_rfl
theorem greatG_vc (w : Wt) (k : Int) : greatG w k =
  ((0 : Nat) < nat_lit 1 ∧
  (k < (↑w.5 : Int) →
      (0 : Nat) < nat_lit 1 ∧
        ((↑w.5 : Int) ≤ (12 : Int) →
            (true = true ↔ k < (↑w.5 : Int) ∧ (↑w.5 : Int) ≤ (12 : Int) ∨ (20 : Int) < (↑w.5 : Int)) ∧ True) ∧
          (¬(↑w.5 : Int) ≤ (12 : Int) →
            (0 : Nat) < nat_lit 1 ∧
              ((20 : Int) < (↑w.5 : Int) ↔ k < (↑w.5 : Int) ∧ (↑w.5 : Int) ≤ (12 : Int) ∨ (20 : Int) < (↑w.5 : Int)) ∧
                True)) ∧
    (¬k < (↑w.5 : Int) →
      (0 : Nat) < nat_lit 1 ∧
        ((20 : Int) < (↑w.5 : Int) ↔ k < (↑w.5 : Int) ∧ (↑w.5 : Int) ≤ (12 : Int) ∨ (20 : Int) < (↑w.5 : Int)) ∧ True)) := by kernel_rfl
theorem spansG_vc (n m : Nat) (l h l' h' : Nat → Int) : spansG n m l h l' h' =
  ((¬(↑n : Int) = (↑m : Int) →
    (false = true ↔ (↑n : Int) = (↑m : Int) ∧ ∀ (i : Nat), i < n → l i = l' i ∧ h i = h' i) ∧ True) ∧
  (¬¬(↑n : Int) = (↑m : Int) →
    ((Int.toNat (0 : Int) ≤ n ∧ ∀ (j : Nat), j < Int.toNat (0 : Int) → l j = l' j ∧ h j = h' j) ∧
        n = n ∧
          (∀ (i : Nat),
              i < n →
                ((fun i => SV.agg [i6 (l i), i6 (h i)]) i).den = ((fun i => SV.agg [i6 (l i), i6 (h i)]) i).den ∧
                  True ∧ True ∧ True) ∧
            m = m ∧
              (∀ (i : Nat),
                  i < m →
                    ((fun i => SV.agg [i6 (l' i), i6 (h' i)]) i).den =
                        ((fun i => SV.agg [i6 (l' i), i6 (h' i)]) i).den ∧
                      True ∧ True ∧ True) ∧
                false = false ∧ (0 : Int) = (↑(Int.toNat (0 : Int)) : Int) ∧ True) ∧
      ∀ (z : Nat),
        (z ≤ n ∧ ∀ (j : Nat), j < z → l j = l' j ∧ h j = h' j) →
          ((↑z : Int) < (↑n : Int) →
              (0 : Int) ≤ (↑z : Int) ∧
                (↑z : Int) < (↑n : Int) ∧
                  (0 : Int) ≤ (↑z : Int) ∧
                    (↑z : Int) < (↑m : Int) ∧
                      (¬(l (↑z : Int).toNat = l' (↑z : Int).toNat ∧ h (↑z : Int).toNat = h' (↑z : Int).toNat) →
                          (false = true ↔ (↑n : Int) = (↑m : Int) ∧ ∀ (i : Nat), i < n → l i = l' i ∧ h i = h' i) ∧
                            True) ∧
                        (¬¬(l (↑z : Int).toNat = l' (↑z : Int).toNat ∧ h (↑z : Int).toNat = h' (↑z : Int).toNat) →
                          ((-9223372036854775808 : Int) ≤ (↑z : Int) + (1 : Int) ∧
                              (↑z : Int) + (1 : Int) ≤ (9223372036854775807 : Int)) ∧
                            (((↑z : Int) + (1 : Int)).toNat ≤ n ∧
                                ∀ (j : Nat), j < ((↑z : Int) + (1 : Int)).toNat → l j = l' j ∧ h j = h' j) ∧
                              n - ((↑z : Int) + (1 : Int)).toNat < n - z ∧
                                n = n ∧
                                  (∀ (i : Nat),
                                      i < n →
                                        ((fun i => SV.agg [i6 (l i), i6 (h i)]) i).den =
                                            ((fun i => SV.agg [i6 (l i), i6 (h i)]) i).den ∧
                                          True ∧ True ∧ True) ∧
                                    m = m ∧
                                      (∀ (i : Nat),
                                          i < m →
                                            ((fun i => SV.agg [i6 (l' i), i6 (h' i)]) i).den =
                                                ((fun i => SV.agg [i6 (l' i), i6 (h' i)]) i).den ∧
                                              True ∧ True ∧ True) ∧
                                        false = false ∧
                                          (↑z : Int) + (1 : Int) = (↑((↑z : Int) + (1 : Int)).toNat : Int) ∧ True)) ∧
            (¬(↑z : Int) < (↑n : Int) →
              (true = true ↔ (↑n : Int) = (↑m : Int) ∧ ∀ (i : Nat), i < n → l i = l' i ∧ h i = h' i) ∧ True))) := by kernel_rfl
theorem afterG_vc (w : Wt) (hour total : Int) (N : Nat) : afterG w hour total N =
  ((0 : Nat) < nat_lit 1 ∧
  (0 : Nat) < nat_lit 1 ∧
    ((-9223372036854775808 : Int) ≤ w.10 * total ∧ w.10 * total ≤ (9223372036854775807 : Int)) ∧
      ((-9223372036854775808 : Int) ≤ w.3 + w.10 * total ∧ w.3 + w.10 * total ≤ (9223372036854775807 : Int)) ∧
        (0 : Nat) < nat_lit 1 ∧
          (0 : Nat) < nat_lit 1 ∧
            ((-9223372036854775808 : Int) ≤ w.10 * total ∧ w.10 * total ≤ (9223372036854775807 : Int)) ∧
              ((-9223372036854775808 : Int) ≤ w.4 + w.10 * total ∧ w.4 + w.10 * total ≤ (9223372036854775807 : Int)) ∧
                ((hour + (1 : Int) - (↑(Int.toNat (0 : Int)) : Int)).NonNeg ∧
                    hour = hour ∧
                      (0 : Nat) = (0 : Nat) ∧
                        (0 : Nat) = (0 : Nat) ∧
                          (0 : Nat) = (0 : Nat) ∧
                            (0 : Nat) = (0 : Nat) ∧
                              (0 : Nat) = (0 : Nat) ∧
                                (0 : Nat) = (0 : Nat) ∧
                                  (0 : Int) = (↑(Int.toNat (0 : Int)) : Int) ∧
                                    w.1 = w.1 ∧
                                      w.2 = w.2 ∧
                                        w.3 = w.3 ∧
                                          w.4 = w.4 ∧
                                            w.5 = w.5 ∧
                                              (∀ (i : Nat),
                                                  i < w.5 →
                                                    ((fun i => SV.agg [i6 (w.dl i), i6 (w.dh i)]) i).den =
                                                        ((fun i => SV.agg [i6 (w.dl i), i6 (w.dh i)]) i).den ∧
                                                      True ∧ True ∧ True) ∧
                                                w.8 = w.8 ∧
                                                  w.9 = w.9 ∧
                                                    w.10 = w.10 ∧
                                                      w.11 = w.11 ∧
                                                        w.12 = w.12 ∧
                                                          (0 : Int) = (0 : Int) ∧
                                                            (0 : Int) = (0 : Int) ∧
                                                              w.3 + w.10 * total = w.3 + w.10 * total - (0 : Int) ∧
                                                                w.4 + w.10 * total = w.4 + w.10 * total - (0 : Int) ∧
                                                                  True) ∧
                  ∀ (z : Nat),
                    (hour + (1 : Int) - (↑z : Int)).NonNeg →
                      ((↑z : Int) ≤ hour →
                          (0 : Nat) < nat_lit 1 ∧
                            (0 : Nat) < nat_lit 1 ∧
                              (0 : Int) ≤ (↑z : Int) ∧
                                (↑z : Int) < (↑w.5 : Int) ∧
                                  ((-9223372036854775808 : Int) ≤
                                        w.3 + w.10 * total - tk w.dh z - w.7 (↑z : Int).toNat ∧
                                      w.3 + w.10 * total - tk w.dh z - w.7 (↑z : Int).toNat ≤
                                        (9223372036854775807 : Int)) ∧
                                    (0 : Nat) < nat_lit 1 ∧
                                      (0 : Nat) < nat_lit 1 ∧
                                        (0 : Int) ≤ (↑z : Int) ∧
                                          (↑z : Int) < (↑w.5 : Int) ∧
                                            ((-9223372036854775808 : Int) ≤
                                                  w.4 + w.10 * total - tk w.dl z - w.6 (↑z : Int).toNat ∧
                                                w.4 + w.10 * total - tk w.dl z - w.6 (↑z : Int).toNat ≤
                                                  (9223372036854775807 : Int)) ∧
                                              ((-9223372036854775808 : Int) ≤ (↑z : Int) + (1 : Int) ∧
                                                  (↑z : Int) + (1 : Int) ≤ (9223372036854775807 : Int)) ∧
                                                (hour + (1 : Int) - (↑((↑z : Int) + (1 : Int)).toNat : Int)).NonNeg ∧
                                                  N - ((↑z : Int) + (1 : Int)).toNat < N - z ∧
                                                    hour = hour ∧
                                                      (0 : Nat) = (0 : Nat) ∧
                                                        (0 : Nat) = (0 : Nat) ∧
                                                          (0 : Nat) = (0 : Nat) ∧
                                                            (0 : Nat) = (0 : Nat) ∧
                                                              (0 : Nat) = (0 : Nat) ∧
                                                                (0 : Nat) = (0 : Nat) ∧
                                                                  (↑z : Int) + (1 : Int) =
                                                                      (↑((↑z : Int) + (1 : Int)).toNat : Int) ∧
                                                                    w.1 = w.1 ∧
                                                                      w.2 = w.2 ∧
                                                                        w.3 = w.3 ∧
                                                                          w.4 = w.4 ∧
                                                                            w.5 = w.5 ∧
                                                                              (∀ (i : Nat),
                                                                                  i < w.5 →
                                                                                    ((fun i =>
                                                                                              SV.agg
                                                                                                [i6 (w.dl i),
                                                                                                  i6 (w.dh i)])
                                                                                            i).den =
                                                                                        ((fun i =>
                                                                                              SV.agg
                                                                                                [i6 (w.dl i),
                                                                                                  i6 (w.dh i)])
                                                                                            i).den ∧
                                                                                      True ∧ True ∧ True) ∧
                                                                                w.8 = w.8 ∧
                                                                                  w.9 = w.9 ∧
                                                                                    w.10 = w.10 ∧
                                                                                      w.11 = w.11 ∧
                                                                                        w.12 = w.12 ∧
                                                                                          (0 : Int) = (0 : Int) ∧
                                                                                            (0 : Int) = (0 : Int) ∧
                                                                                              w.3 + w.10 * total -
                                                                                                      tk w.dh z -
                                                                                                    w.7
                                                                                                      (↑z : Int).toNat =
                                                                                                  w.3 + w.10 * total -
                                                                                                    (tk w.dh z +
                                                                                                      w.7 z) ∧
                                                                                                w.4 + w.10 * total -
                                                                                                        tk w.dl z -
                                                                                                      w.6
                                                                                                        (↑z :
                                                                                                            Int).toNat =
                                                                                                    w.4 + w.10 * total -
                                                                                                      (tk w.dl z +
                                                                                                        w.6 z) ∧
                                                                                                  True) ∧
                        (¬(↑z : Int) ≤ hour →
                          (0 : Nat) < nat_lit 1 ∧
                            (0 : Nat) < nat_lit 1 ∧
                              w.3 + w.10 * total - tk w.dh z =
                                  w.3 + w.10 * total - (tk w.dh hour.toNat + w.7 hour.toNat) ∧
                                w.4 + w.10 * total - tk w.dl z =
                                    w.4 + w.10 * total - (tk w.dl hour.toNat + w.6 hour.toNat) ∧
                                  True)) := by kernel_rfl
end Go.Proofs.Ytoeolgeidpjgbaa

set_option linter.unusedVariables false
namespace Go.Proofs.Ytoeolgeidpjgbaa
open Go Go.Lg
attribute [local irreducible] funS
theorem isPlan_true (w : Wt) (m : Nat) (p : Nat → Int) (hm : m ≤ 1000) : isPlanG w m p := by
  rw [isPlanG_vc]
  simp only [and_true, true_and, Int.toNat_natCast, implies_true, Int.toNat_zero, c0, lit1, and_self, Classical.not_not]
  refine ⟨⟨Nat.zero_le _, fun j hj => by omega⟩, fun z hz => ⟨fun hlt => ⟨by omega, hlt, fun a => ?_, fun a => ⟨by omega, ⟨by omega, fun j hj => ?_⟩, by omega, by omega⟩⟩, fun hge => ?_⟩⟩
  · simp only [Bool.false_eq_true, false_iff]; intro h'; exact a (h'.2 z (by omega))
  · have e : ((z : Int) + 1).toNat = z + 1 := by omega
    rw [e] at hj
    rcases Nat.lt_succ_iff_lt_or_eq.1 hj with h' | rfl
    · exact hz.2 j h'
    · exact a
  · have : z = m := by omega
    subst this
    exact ⟨fun h => ⟨h, hz.2⟩, fun h => h.1⟩
theorem isPlan2_true (w : Wt) (m : Nat) (p : Nat → Int) (hm : m ≤ 1000) : isPlanG' w m p := by
  rw [isPlanG2_vc]
  simp only [and_true, true_and, Int.toNat_natCast, implies_true, Int.toNat_zero, c0, lit1, and_self, Classical.not_not]
  refine ⟨fun h => ?_, fun h => ⟨⟨Nat.zero_le _, fun j hj => by omega⟩, fun z hz => ⟨fun hlt => ⟨by omega, hlt, fun a => ?_, fun a => ⟨by omega, ⟨by omega, fun j hj => ?_⟩, by omega, by omega⟩⟩, fun hge => ?_⟩⟩⟩
  · simp only [Bool.false_eq_true, false_iff]; exact fun h' => h h'.1
  · simp only [Bool.false_eq_true, false_iff]; intro h'; exact a (h'.2 z (by omega))
  · have e : ((z : Int) + 1).toNat = z + 1 := by omega
    rw [e] at hj
    rcases Nat.lt_succ_iff_lt_or_eq.1 hj with h' | rfl
    · exact hz.2 j h'
    · exact a
  · have : z = m := by omega
    subst this
    simp only [true_iff]
    exact ⟨h, hz.2⟩
theorem spans_true (n m : Nat) (l h l' h' : Nat → Int) (hn : n ≤ 1000) : spansG n m l h l' h' := by
  rw [spansG_vc]
  simp only [and_true, true_and, Int.toNat_natCast, implies_true, Int.toNat_zero, c0, and_self, Classical.not_not]
  refine ⟨fun h => ?_, fun h => ⟨⟨Nat.zero_le _, fun j hj => by omega⟩, fun z hz => ⟨fun hlt => ⟨by omega, hlt, by omega, by omega, fun a => ?_, fun a => ⟨by omega, ⟨by omega, fun j hj => ?_⟩, by omega, by omega⟩⟩, fun hge => ?_⟩⟩⟩
  · simp only [Bool.false_eq_true, false_iff]; exact fun h' => h h'.1
  · simp only [Bool.false_eq_true, false_iff]; intro h'; exact a (h'.2 z (by omega))
  · have e : ((z : Int) + 1).toNat = z + 1 := by omega
    rw [e] at hj
    rcases Nat.lt_succ_iff_lt_or_eq.1 hj with h' | rfl
    · exact hz.2 j h'
    · exact a
  · have : z = n := by omega
    subst this
    simp only [true_iff]
    exact ⟨h, hz.2⟩
theorem great_true (w : Wt) (k : Int) : greatG w k := by
  rw [greatG_vc]
  simp only [and_true, true_and, lit1]
  refine ⟨fun h1 => ⟨fun h2 => ?_, fun h2 => ?_⟩, fun h1 => ?_⟩
  · simp only [true_iff]; omega
  · omega
  · omega
theorem tk_le {f : Nat → Int} {n : Nat} (hf : ∀ i, i < n → 0 ≤ f i ∧ f i ≤ 1073741824) : ∀ i, i ≤ n → 0 ≤ tk f i ∧ tk f i ≤ 1073741824 * (i : Int)
  | 0, _ => by simp [tk]
  | i + 1, h => by
    have := tk_le hf i (by omega)
    have := hf i (by omega)
    simp only [tk]; push_cast; omega
theorem yB {y t : Int} (h1 : 0 ≤ y) (h2 : y ≤ 1073741824) (h3 : 0 ≤ t) (h4 : t ≤ 1000) : 0 ≤ y * t ∧ y * t ≤ 1073741824000 := by
  refine ⟨Int.mul_nonneg h1 h3, ?_⟩
  have := Int.mul_le_mul h2 h4 h3 (by omega)
  omega
theorem after_true (w : Wt) (hour total : Int) (hw : watchP w) (h0 : 0 ≤ hour) (h1 : hour < w.n) (t0 : 0 ≤ total) (t1 : total ≤ 1000) : afterG w hour total w.n := by
  rw [afterG_vc]
  obtain ⟨⟨⟨f1, f2, f3, f4⟩, r1, r2, r3, r4, r5⟩, hd⟩ := hw
  have hl := tk_le (f := w.dl) (n := w.n) fun i hi => by have := hd i hi; unfold okD at this; omega
  have hh := tk_le (f := w.dh) (n := w.n) fun i hi => by have := hd i hi; unfold okD at this; omega
  have hy := yB r3.1 r3.2 t0 t1
  simp only [and_true, true_and, Int.toNat_natCast, implies_true, Int.toNat_zero, c0, lit1, and_self]
  have nn : ∀ z : Int, z.NonNeg ↔ 0 ≤ z := fun z => by rw [Int.le_def]; simp
  simp only [nn]
  refine ⟨by omega, by omega, by omega, by omega, ⟨by omega, by omega, by omega⟩, fun z hz => ⟨fun hlt => ?_, fun hge => ?_⟩⟩
  · have hdz := hd z (by omega)
    unfold okD at hdz
    have a1 := hl z (by omega)
    have a2 := hh z (by omega)
    exact ⟨by omega, by omega, by omega, by omega, by omega, by omega, by omega, by omega, by omega, by omega, by omega, by omega⟩
  · have : z = hour.toNat + 1 := by omega
    subst this
    exact ⟨rfl, rfl⟩
theorem watch_leaf {w : Wt} {P : Prop} (h : watchP w → P) (hn : ¬ P) : (false = true ↔ watchP w) := by
  simp only [Bool.false_eq_true, false_iff]; exact fun hw => hn (h hw)
theorem watch_all {w : Wt} (h : sizesP w ∧ ((0 ≤ w.ret ∧ w.ret ≤ 4) ∧ (0 ≤ w.lit ∧ w.lit ≤ w.ret) ∧ (0 ≤ w.yield ∧ w.yield ≤ 1073741824) ∧ (0 ≤ w.coal ∧ w.coal ≤ 10000))) (hd : ∀ i, i < w.n → okD w i) : (0 ≤ w.light ∧ w.light ≤ 10000 ↔ watchP w) :=
  ⟨fun hl => ⟨⟨h.1, h.2.1, h.2.2.1, h.2.2.2.1, h.2.2.2.2, hl⟩, hd⟩, fun hw => hw.1.2.2.2.2.2⟩
theorem watch_true (w : Wt) : watchG w := by
  rw [watchG_vc]
  simp only [and_true, true_and, Int.toNat_natCast, implies_true, Int.toNat_zero, c0, lit1, and_self, Classical.not_not]
  have tail : ∀ z : Nat, (z ≤ w.n ∧ ∀ j, j < z → okD w j) → ((w.n : Int) ≤ 12 → z = w.n) → _ := fun z hz hq h1 h2 h3 (h4 : (w.n : Int) ≤ 12) h5 h6 h7 h8 => watch_all (w := w) ⟨⟨h1, h2, h3, h4⟩, h5, h6, h7, h8⟩ (by rw [← hq h4]; exact hz.2)
  refine ⟨⟨Nat.zero_le _, fun j hj => by omega⟩, fun z hz => ⟨fun hlt => ⟨fun h12 => ⟨by omega, hlt, fun a => watch_leaf (fun hw => hw.2 z (by omega)) a, fun a => ⟨by omega, ⟨by omega, fun j hj => ?_⟩, by omega, by omega⟩⟩, fun h12 => ?_⟩, fun hge => ?_⟩⟩
  · have e : ((z : Int) + 1).toNat = z + 1 := by omega
    rw [e] at hj
    rcases Nat.lt_succ_iff_lt_or_eq.1 hj with h' | rfl
    · exact hz.2 j h'
    · exact a
  · have t := tail z hz (by omega)
    exact ⟨fun h1 => ⟨fun h2 => ⟨fun h3 => ⟨fun h4 => ⟨fun h5 => ⟨fun h6 => ⟨fun h7 => ⟨fun h8 => t h1 h2 h3 h4 h5 h6 h7 h8, watch_leaf fun hw => hw.1.2.2.2.2.1⟩, watch_leaf fun hw => hw.1.2.2.2.1⟩, watch_leaf fun hw => hw.1.2.2.1⟩, watch_leaf fun hw => hw.1.2.1⟩, watch_leaf fun hw => hw.1.1.2.2.2⟩, watch_leaf fun hw => hw.1.1.2.2.1⟩, watch_leaf fun hw => hw.1.1.2.1⟩, watch_leaf fun hw => hw.1.1.1⟩
  · have t := tail z hz (by omega)
    exact ⟨fun h1 => ⟨fun h2 => ⟨fun h3 => ⟨fun h4 => ⟨fun h5 => ⟨fun h6 => ⟨fun h7 => ⟨fun h8 => t h1 h2 h3 h4 h5 h6 h7 h8, watch_leaf fun hw => hw.1.2.2.2.2.1⟩, watch_leaf fun hw => hw.1.2.2.2.1⟩, watch_leaf fun hw => hw.1.2.2.1⟩, watch_leaf fun hw => hw.1.2.1⟩, watch_leaf fun hw => hw.1.1.2.2.2⟩, watch_leaf fun hw => hw.1.1.2.2.1⟩, watch_leaf fun hw => hw.1.1.2.1⟩, watch_leaf fun hw => hw.1.1.1⟩
theorem watch2_true (w : Wt) : watchG' w := by
  rw [watchG2_vc]
  simp only [and_true, true_and, Int.toNat_natCast, implies_true, Int.toNat_zero, c0, lit1, and_self, Classical.not_not]
  refine ⟨watch_leaf fun hw => hw.1.1.1, fun h1 => ⟨watch_leaf fun hw => hw.1.1.2.1, fun h2 => ⟨watch_leaf fun hw => hw.1.1.2.2.1, fun h3 => ⟨fun h4 => watch_leaf (fun hw => hw.1.1.2.2.2) (by omega), fun h4 => ⟨⟨Nat.zero_le _, fun j hj => by omega⟩, fun z hz => ⟨fun hlt => ⟨by omega, hlt, fun a => watch_leaf (fun hw => hw.2 z (by omega)) a, fun a => ⟨by omega, ⟨by omega, fun j hj => ?_⟩, by omega, by omega⟩⟩, fun hge => ?_⟩⟩⟩⟩⟩⟩
  · have e : ((z : Int) + 1).toNat = z + 1 := by omega
    rw [e] at hj
    rcases Nat.lt_succ_iff_lt_or_eq.1 hj with h' | rfl
    · exact hz.2 j h'
    · exact a
  · have : z = w.n := by omega
    subst this
    exact ⟨fun h5 => ⟨fun h6 => ⟨fun h7 => ⟨fun h8 => watch_all ⟨⟨h1, h2, h3, by omega⟩, h5, h6, h7, h8⟩ hz.2, watch_leaf fun hw => hw.1.2.2.2.2.1⟩, watch_leaf fun hw => hw.1.2.2.2.1⟩, watch_leaf fun hw => hw.1.2.2.1⟩, watch_leaf fun hw => hw.1.2.1⟩
end Go.Proofs.Ytoeolgeidpjgbaa
