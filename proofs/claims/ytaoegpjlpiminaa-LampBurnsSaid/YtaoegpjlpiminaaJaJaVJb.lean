import Derived.ProofKit
import Derived.Test.YtaoegpjlpiminaaProg
import Derived.Test.YtaoegpjlpiminaaPfPgPhPiPjPk
import Derived.Test.YtaoegpjlpiminaaPn
set_option linter.unusedVariables false
set_option linter.unusedSimpArgs false
namespace Go.Proofs.Ytaoegpjlpiminaa
open Go Go.Lg
attribute [local irreducible] bodyH
def rI (x : Int) : Prop := -9223372036854775808 ≤ x ∧ x ≤ 9223372036854775807
def rE {α : Type} (a : α) : Prop := a = a
def tt3 : Prop := True ∧ True ∧ True
def tt4 : Prop := True ∧ True ∧ True ∧ True
def tt5 : Prop := True ∧ True ∧ True ∧ True ∧ True
def tt13 : Prop := True ∧ True ∧ True ∧ True ∧ True ∧ True ∧ True ∧ True ∧ True ∧ True ∧ True ∧ True ∧ True
def tt14 : Prop := True ∧ tt13
noncomputable def appN (n s1 : Nat) (inv : Nat → Prop) (μ : Nat → Nat) (nr : Nat) (t : Nat → FS) (X : Nat → XS) : HSpec :=
  { toLSpec := { σ := Nat, inv := inv, μ := μ, nr := nr, t := t, X := X, rd := fun _ _ k => ∃ z, k z, rdOK := fun _ _ _ h => h,
                 ms := fun t _ => match sget n t s1 with
                   | .sl r _ _ => [some r]
                   | _ => [none] } }
structure Nt where
  du : Int
  da : Int
  ri : Int
  se : Int
  le : Int
def Nt.sv (n : Nt) : SV := .agg [i6 n.du, i6 n.da, i6 n.ri, i6 n.se, i6 n.le]
structure Tw where
  lo : Int
  hi : Int
def Tw.sv (t : Tw) : SV := .agg [i6 t.lo, i6 t.hi]
def tOf : SV → Tw
  | .agg [.int _ a, .int _ b] => ⟨a, b⟩
  | _ => ⟨0, 0⟩
def ftOf (f : Nat → SV) (i : Nat) : Tw := tOf (f i)
def twL (n : Nat) (f : Nat → Tw) : SV := .lst 2 n fun i => (f i).sv
def inL (n : Nat) (g : Nat → Int) : SV := .lst 1 n fun i => i6 (g i)
def tm (x : Int) : Prop := 0 ≤ x ∧ x ≤ 2880
structure okN (n : Nt) : Prop where
  du : tm n.du
  da : tm n.da
  ri : tm n.ri
  se : tm n.se
  le : tm n.le
  d : n.du ≤ n.da
  m : n.ri ≤ n.se
noncomputable def sumJ (g : Nat → Int) : Nat → Int
  | 0 => 0
  | j + 1 => sumJ g j + g j
noncomputable def flt (g : Nat → Tw) : Nat → List Tw
  | 0 => []
  | k + 1 => @ite _ ((g k).lo < (g k).hi) (Classical.propDecidable _) (flt g k ++ [g k]) (flt g k)
noncomputable def fN (g : Nat → Tw) (k : Nat) : Nat := (flt g k).length
noncomputable def fF (g : Nat → Tw) (k i : Nat) : Tw := (flt g k).getD i ⟨0, 0⟩
def gM (n : Nt) : Tw := ⟨max n.du n.ri, min n.da n.se⟩
def c1 (n : Nt) (_ : Nat) : Tw := ⟨n.du, n.da⟩
def c2 (n : Nt) (i : Nat) : Tw := if i = 0 then ⟨n.du, (gM n).lo⟩ else ⟨(gM n).hi, n.da⟩
open Classical in
noncomputable def bl (n : Nt) : List Tw := if (gM n).hi - (gM n).lo < max n.le 1 then flt (c1 n) 1 else flt (c2 n) 2
open Classical in
noncomputable def rl (n : Nt) : List Tw := if okN n then bl n else []
open Classical in
noncomputable def er (n : Nt) : Int := if okN n then 0 else 1
noncomputable def lL (l : List Tw) : SV := twL l.length fun i => l.getD i ⟨0, 0⟩
noncomputable def rl' (n : Nt) : SV := .tup [lL (rl n), i6 (er n)]
def frC (g : FuncId) : Ctr := ⟨g, fun args k => match args with
  | [.int .i64 n, .int .i64 a, .int .i64 b] => k (.dec (a ≤ n ∧ n ≤ b) (Classical.propDecidable _))
  | _ => False⟩
noncomputable def frG (n a b : Int) : Prop := funH Try.prog (ctrs []) noX (ictrs []) noL noL 46 [i6 n, i6 a, i6 b] (.dec (a ≤ n ∧ n ≤ b) (Classical.propDecidable _))
noncomputable def rinG (n a b : Int) : Prop := funH Try.prog (ctrs []) noX (ictrs []) noL noL 48 [i6 n, i6 a, i6 b] (.dec (a ≤ n ∧ n ≤ b) (Classical.propDecidable _))
noncomputable def atC : Ctr := ⟨75, fun args k => match args with
  | [.lst 1 n f] => ∃ g : Nat → Int, (∀ i, i < n → f i = i6 (g i)) ∧ n ≤ 1000 ∧ k (.dec (∀ i, i < n → tm (g i)) (Classical.propDecidable _))
  | _ => False⟩
noncomputable def atG (n : Nat) (g : Nat → Int) : Prop := funH Try.prog (ctrs [frC 46]) noX (ictrs [])
  (oneL 0 (natH (fun k => k ≤ n ∧ ∀ i, i < k → tm (g i)) (fun k => n - k) 0 (fun k => mkF 15 [(5, inL n g), (6, i6 n), (7, i6 k)]) (fun _ => mkX []) fun _ => none)) noL 75 [inL n g] (.dec (∀ i, i < n → tm (g i)) (Classical.propDecidable _))
noncomputable def ngC (f : FuncId) : Ctr := ⟨f, fun args k => match args with
  | [.agg [.int .i64 a, .int .i64 b, .int .i64 c, .int .i64 d, .int .i64 e]] => k (.dec (okN ⟨a, b, c, d, e⟩) (Classical.propDecidable _))
  | _ => False⟩
noncomputable def ngG (n : Nt) : Prop := funH Try.prog (ctrs [atC]) noX (ictrs []) noL noL 43 [n.sv] (.dec (okN n) (Classical.propDecidable _))
noncomputable def rngG (n : Nt) : Prop := funH Try.prog (ctrs [frC 48]) noX (ictrs []) noL noL 29 [n.sv] (.dec (okN n) (Classical.propDecidable _))
def moC : Ctr := ⟨76, fun args k => match args with
  | [.agg [.int .i64 a, .int .i64 b, .int .i64 c, .int .i64 d, .int .i64 e]] => k (gM ⟨a, b, c, d, e⟩).sv
  | _ => False⟩
noncomputable def moG (n : Nt) : Prop := funH Try.prog (ctrs []) noX (ictrs []) noL noL 76 [n.sv] (gM n).sv
def laC : Ctr := ⟨77, fun args k => match args with
  | [.agg [.int .i64 a, .int .i64 b]] => rI (b - a) ∧ k (i6 (b - a))
  | _ => False⟩
noncomputable def laG (a b : Int) : Prop := funH Try.prog (ctrs []) noX (ictrs []) noL noL 77 [.agg [i6 a, i6 b]] (i6 (b - a))
noncomputable def soC : Ctr := ⟨78, fun args k => match args with
  | [.lst 2 n f] => ∃ g : Nat → Tw, (∀ i, i < n → f i = (g i).sv) ∧ n ≤ 1000 ∧ (∀ i, i < n → tm (g i).lo ∧ tm (g i).hi) ∧ k (twL (fN g n) (fF g n))
  | _ => False⟩
noncomputable def soG (n : Nat) (g : Nat → Tw) : Prop := funN Try.prog (ctrs [laC]) noX (ictrs [])
  (oneL 0 (appN 21 3 (fun k => k ≤ n) (fun k => n - k) 0 (fun k => mkF 21 [(3, .sl 0 0 (fN g k)), (6, twL n g), (7, i6 n), (8, i6 k)]) fun k => mkX [rw' 2 (fN g k) fun i => (fF g k i).sv])) noL
  78 [twL n g] (twL (fN g n) (fF g n))
noncomputable def buC : Ctr := ⟨44, fun args k => match args with
  | [.agg [.int .i64 a, .int .i64 b, .int .i64 c, .int .i64 d, .int .i64 e]] => okN ⟨a, b, c, d, e⟩ ∧ k (lL (bl ⟨a, b, c, d, e⟩))
  | _ => False⟩
noncomputable def buG (n : Nt) : Prop := funH Try.prog (ctrs [moC, laC, soC]) noX (ictrs []) noL noL 44 [n.sv] (lL (bl n))
noncomputable def brC : Ctr := ⟨15, fun args k => match args with
  | [.agg [.int .i64 a, .int .i64 b, .int .i64 c, .int .i64 d, .int .i64 e]] => k (rl' ⟨a, b, c, d, e⟩)
  | _ => False⟩
noncomputable def brG (n : Nt) : Prop := funH Try.prog (ctrsF [buC] (ctrs [ngC 43])) noX (ictrs []) noL noL 15 [n.sv] (rl' n)
end Go.Proofs.Ytaoegpjlpiminaa

set_option maxRecDepth 100000
namespace Go.Proofs.Ytaoegpjlpiminaa
open Go Go.Lg
theorem frG_vc (n : Int) (a : Int) (b : Int) : frG n a b =
 ((a ≤ n → (n ≤ b ↔ a ≤ n ∧ n ≤ b) ∧ True) ∧ (¬a ≤ n → (false = true ↔ a ≤ n ∧ n ≤ b) ∧ True)) := by kernel_rfl
theorem rinG_vc (n : Int) (a : Int) (b : Int) : rinG n a b =
 ((a ≤ n → (n ≤ b ↔ a ≤ n ∧ n ≤ b) ∧ True) ∧ (¬a ≤ n → (false = true ↔ a ≤ n ∧ n ≤ b) ∧ True)) := by kernel_rfl
theorem atG_vc (n : Nat) (g : Nat → Int) : atG n g =
 ((∃ (z : Nat),
    (z ≤ n ∧ ∀ (i : Nat), i < z → tm (g i)) ∧
      n = n ∧
        (∀ (i : Nat), i < n → (i6 (g i)).den = (i6 (g i)).den ∧ True) ∧
          (↑n : Int) = (↑n : Int) ∧ (0 : Int) = (↑z : Int) ∧ True) ∧
  ∀ (z : Nat),
    (z ≤ n ∧ ∀ (i : Nat), i < z → tm (g i)) →
      ((↑z : Int) < (↑n : Int) →
          (0 : Int) ≤ (↑z : Int) ∧
            (↑z : Int) < (↑n : Int) ∧
              (¬((0 : Int) ≤ g (↑z : Int).toNat ∧ g (↑z : Int).toNat ≤ (2880 : Int)) →
                  (false = true ↔ ∀ (i : Nat), i < n → tm (g i)) ∧ True) ∧
                (¬¬((0 : Int) ≤ g (↑z : Int).toNat ∧ g (↑z : Int).toNat ≤ (2880 : Int)) →
                  ((-9223372036854775808 : Int) ≤ (↑z : Int) + (1 : Int) ∧
                      (↑z : Int) + (1 : Int) ≤ (9223372036854775807 : Int)) ∧
                    ∃ (z_1 : Nat),
                      (z_1 ≤ n ∧ ∀ (i : Nat), i < z_1 → tm (g i)) ∧
                        n - z_1 < n - z ∧
                          n = n ∧
                            (∀ (i : Nat), i < n → (i6 (g i)).den = (i6 (g i)).den ∧ True) ∧
                              (↑n : Int) = (↑n : Int) ∧ (↑z : Int) + (1 : Int) = (↑z_1 : Int) ∧ True)) ∧
        (¬(↑z : Int) < (↑n : Int) → (true = true ↔ ∀ (i : Nat), i < n → tm (g i)) ∧ True)) := by kernel_rfl
theorem ngG_vc (n : Nt) : ngG n =
 ((0 : Nat) < (1 : Nat) ∧
  (0 : Nat) < (1 : Nat) ∧
    (0 : Nat) < (1 : Nat) ∧
      (0 : Nat) < (1 : Nat) ∧
        (0 : Nat) < (1 : Nat) ∧
          ((∀ (i : Nat), true = true) ∧
              (∀ (i : Nat), true = true) ∧ (∀ (i : Nat), true = true) ∧ (∀ (i : Nat), true = true) ∧ True) ∧
            (∀ (i : Nat), i < (5 : Nat) → True) ∧
              ∃ (g : Nat → Int),
                (∀ (i : Nat),
                    i < (5 : Nat) →
                      chainF
                          [SV.int IntKind.i64 n.du, SV.int IntKind.i64 n.da, SV.int IntKind.i64 n.ri,
                            SV.int IntKind.i64 n.se, SV.int IntKind.i64 n.le]
                          i =
                        i6 (g i)) ∧
                  (5 : Nat) ≤ (1000 : Nat) ∧
                    ((∀ (i : Nat), i < (5 : Nat) → tm (g i)) →
                        (0 : Nat) < (1 : Nat) ∧
                          (0 : Nat) < (1 : Nat) ∧
                            (n.1 ≤ n.2 → (0 : Nat) < (1 : Nat) ∧ (0 : Nat) < (1 : Nat) ∧ (n.3 ≤ n.4 ↔ okN n) ∧ True) ∧
                              (¬n.1 ≤ n.2 → (false = true ↔ okN n) ∧ True)) ∧
                      ((¬∀ (i : Nat), i < (5 : Nat) → tm (g i)) → (false = true ↔ okN n) ∧ True)) := by kernel_rfl
theorem rngG_vc (n : Nt) : rngG n =
 ((0 : Nat) < (1 : Nat) ∧
  (0 : Nat) < (1 : Nat) ∧
    ((0 : Int) ≤ n.1 ∧ n.1 ≤ n.2 →
        (0 : Nat) < (1 : Nat) ∧
          (n.2 ≤ (2880 : Int) →
              (0 : Nat) < (1 : Nat) ∧
                (0 : Nat) < (1 : Nat) ∧
                  ((0 : Int) ≤ n.3 ∧ n.3 ≤ n.4 →
                      (0 : Nat) < (1 : Nat) ∧
                        (n.4 ≤ (2880 : Int) →
                            (0 : Nat) < (1 : Nat) ∧ ((0 : Int) ≤ n.5 ∧ n.5 ≤ (2880 : Int) ↔ okN n) ∧ True) ∧
                          (¬n.4 ≤ (2880 : Int) → (false = true ↔ okN n) ∧ True)) ∧
                    (¬((0 : Int) ≤ n.3 ∧ n.3 ≤ n.4) → (false = true ↔ okN n) ∧ True)) ∧
            (¬n.2 ≤ (2880 : Int) → (false = true ↔ okN n) ∧ True)) ∧
      (¬((0 : Int) ≤ n.1 ∧ n.1 ≤ n.2) → (false = true ↔ okN n) ∧ True)) := by kernel_rfl
theorem moG_vc (n : Nt) : moG n =
 ((0 : Nat) < (1 : Nat) ∧
  (0 : Nat) < (1 : Nat) ∧
    (0 : Nat) < (1 : Nat) ∧
      (0 : Nat) < (1 : Nat) ∧ (0 : Nat) < (1 : Nat) ∧ max n.1 n.3 = max n.1 n.3 ∧ min n.2 n.4 = min n.2 n.4 ∧ True) := by kernel_rfl
theorem laG_vc (a : Int) (b : Int) : laG a b =
 ((0 : Nat) < (1 : Nat) ∧
  (0 : Nat) < (1 : Nat) ∧
    ((-9223372036854775808 : Int) ≤ b - a ∧ b - a ≤ (9223372036854775807 : Int)) ∧ b - a = b - a ∧ True) := by kernel_rfl
theorem soG_vc (n : Nat) (g : Nat → Tw) : soG n g =
 ((∃ (z : Nat), z ≤ n ∧ rE (0 : Nat) ∧ (0 : Nat) = fN g z ∧ n = n ∧ (∀ (i : Nat), i < n → rE ((g i).sv.den) ∧ True ∧ True ∧ True) ∧ rE (↑n : Int) ∧ (0 : Int) = (↑z : Int) ∧ fN g z = (0 : Nat) ∧ True) ∧ ∀ (z : Nat), z ≤ n → ((↑z : Int) < (↑n : Int) → (0 : Int) ≤ (↑z : Int) ∧ (↑z : Int) < (↑n : Int) ∧ (0 : Nat) < (1 : Nat) ∧ rI ((g (↑z : Int).toNat).hi - (g (↑z : Int).toNat).lo) ∧ ((0 : Int) < (g (↑z : Int).toNat).2 - (g (↑z : Int).toNat).1 → (0 : Nat) < (1 : Nat) ∧ True ∧ (∀ (i : Nat), i < (1 : Nat) → rE true) ∧ rE (0 : Nat) ∧ rE (fN g z) ∧ (∀ (i : Nat), rE true) ∧ (fN g z + (1 : Nat)) * (16 : Nat) ≤ (140737488355328 : Nat) ∧ fN g z + (1 : Nat) ≤ (4611686018427387904 : Nat) ∧ rI ((↑z : Int) + (1 : Int)) ∧ ∃ (z_1 : Nat), z_1 ≤ n ∧ n - z_1 < n - z ∧ rE (0 : Nat) ∧ fN g z + (1 : Nat) = fN g z_1 ∧ n = n ∧ (∀ (i : Nat), i < n → rE ((g i).sv.den) ∧ True ∧ True ∧ True) ∧ rE (↑n : Int) ∧ (↑z :
 Int) + (1 : Int) = (↑z_1 : Int) ∧ fN g z_1 = fN g z + (1 : Nat) ∧ (∀ (i : Nat), i < fN g z_1 → rE (2 : Nat) ∧ (if i < fN g z then (fF g z i).1 else (g (↑z : Int).toNat).1) = (fF g z_1 i).1 ∧ (if i < fN g z then (fF g z i).2 else (g (↑z : Int).toNat).2) = (fF g z_1 i).2 ∧ True) ∧ True) ∧ (¬(0 : Int) < (g (↑z : Int).toNat).2 - (g (↑z : Int).toNat).1 → rI ((↑z : Int) + (1 : Int)) ∧ ∃ (z_1 : Nat), z_1 ≤ n ∧ n - z_1 < n - z ∧ rE (0 : Nat) ∧ fN g z = fN g z_1 ∧ n = n ∧ (∀ (i : Nat), i < n → rE ((g i).sv.den) ∧ True ∧ True ∧ True) ∧ rE (↑n : Int) ∧ (↑z : Int) + (1 : Int) = (↑z_1 : Int) ∧ fN g z_1 = fN g z ∧ (∀ (i : Nat), i < fN g z_1 → rE (2 : Nat) ∧ (fF g z i).1 = (fF g z_1 i).1 ∧ (fF g z i).2 = (fF g z_1 i).2 ∧ True) ∧ True)) ∧ (¬(↑z : Int) < (↑n : Int) → fN g z = fN g n ∧ (0 : Nat) + fN g n ≤ fN g z ∧ (∀ (i : Nat), i < fN g n → rE (2 : Nat) ∧ rE (2 : Nat) ∧ (fF g z (i + (0 : Nat))).1 = (fF
 g n i).1 ∧ (fF g z (i + (0 : Nat))).2 = (fF g n i).2 ∧ True) ∧ True)) := by kernel_rfl
theorem buG_vc (n : Nt) : buG n =
 ((0 : Nat) < (1 : Nat) ∧ (0 : Nat) < (1 : Nat) ∧ rI ((gM (Nt.mk n.du n.da n.ri n.se n.le)).hi - (gM (Nt.mk n.du n.da n.ri n.se n.le)).lo) ∧ (0 : Nat) < (1 : Nat) ∧ (min n.2 n.4 - max n.1 n.3 < max n.5 (1 : Int) → (0 : Nat) < (1 : Nat) ∧ (0 : Nat) < (1 : Nat) ∧ True ∧ (∀ (i : Nat), i < (1 : Nat) → True ∧ True ∧ True) ∧ ∃ (g : Nat → Tw), (∀ (i : Nat), i < (1 : Nat) → chainF [SV.agg [SV.int IntKind.i64 n.du, SV.int IntKind.i64 n.da]] i = (g i).sv) ∧ (1 : Nat) ≤ (1000 : Nat) ∧ (∀ (i : Nat), i < (1 : Nat) → tm (g i).lo ∧ tm (g i).hi) ∧ fN g (1 : Nat) = (bl n).length ∧ (∀ (i : Nat), i < (bl n).length → (fF g (1 : Nat) i).sv.den = ((bl n).getD i (Tw.mk (0 : Int) (0 : Int))).sv.den ∧ True ∧ True ∧ True) ∧ True) ∧ (¬min n.2 n.4 - max n.1 n.3 < max n.5 (1 : Int) → (0 : Nat) < (1 : Nat) ∧ (0 : Nat) < (1 : Nat) ∧ (0 : Nat) < (1 : Nat) ∧ (0 : Nat) < (1 : Nat) ∧ ((∀ (i : Nat), rE true) ∧ True) ∧ (∀ (i : Nat), i <
 (2 : Nat) → True ∧ True ∧ True) ∧ ∃ (g : Nat → Tw), (∀ (i : Nat), i < (2 : Nat) → chainF [SV.agg [SV.int IntKind.i64 n.du, SV.int IntKind.i64 (gM (Nt.mk n.du n.da n.ri n.se n.le)).lo], SV.agg [SV.int IntKind.i64 (gM (Nt.mk n.du n.da n.ri n.se n.le)).hi, SV.int IntKind.i64 n.da]] i = (g i).sv) ∧ (2 : Nat) ≤ (1000 : Nat) ∧ (∀ (i : Nat), i < (2 : Nat) → tm (g i).lo ∧ tm (g i).hi) ∧ fN g (2 : Nat) = (bl n).length ∧ (∀ (i : Nat), i < (bl n).length → (fF g (2 : Nat) i).sv.den = ((bl n).getD i (Tw.mk (0 : Int) (0 : Int))).sv.den ∧ True ∧ True ∧ True) ∧ True)) := by kernel_rfl
theorem brG_vc (n : Nt) : brG n =
 ((0 : Nat) < (1 : Nat) ∧
  (¬okN (Nt.mk n.du n.da n.ri n.se n.le) → (0 : Nat) = (rl n).length ∧ (1 : Int) = er n ∧ True) ∧
    (¬¬okN (Nt.mk n.du n.da n.ri n.se n.le) →
      (0 : Nat) < (1 : Nat) ∧
        okN (Nt.mk n.du n.da n.ri n.se n.le) ∧
          (bl (Nt.mk n.du n.da n.ri n.se n.le)).length = (rl n).length ∧
            (∀ (i : Nat),
                i < (rl n).length →
                  ((bl (Nt.mk n.du n.da n.ri n.se n.le)).getD i (Tw.mk (0 : Int) (0 : Int))).sv.den =
                      ((rl n).getD i (Tw.mk (0 : Int) (0 : Int))).sv.den ∧
                    True ∧ True ∧ True) ∧
              (0 : Int) = er n ∧ True)) := by kernel_rfl
end Go.Proofs.Ytaoegpjlpiminaa

set_option maxRecDepth 100000
namespace Go.Proofs.Ytaoegpjlpiminaa
open Go Go.Lg
attribute [local irreducible] funS bodyH
theorem mixed : Try.prog.follows .mixedOrders = true := by kernel_rfl
theorem nilS_x {γ : GS → noGhost.S} : SoundXH Try.prog noGhost γ noX := noX_sound
theorem nilS_ic : SoundIH Try.prog (ictrs []) := ictrs_sound (by intro x hx; simp at hx)
theorem nilS_cs : SoundS Try.prog (ctrs []) := ctrs_sound (by intro x hx; simp at hx)
theorem plainD {cs : CSpec} {cx : CX} {ic : IC} {sp isp f args res} (hcs : SoundS Try.prog cs) (hcx : SoundXH Try.prog noGhost γ0 cx) (hic : SoundIH Try.prog ic) (h : funH Try.prog cs cx ic sp isp f args res) (hp : plainS res) : Does Try.prog f true (SV.denL args) res.den :=
  Does.plain (funH_does hcs hcx hic mixed h) hp
theorem newD {cs : CSpec} {cx : CX} {ic : IC} {sp isp f args res} (hcs : SoundS Try.prog cs) (hcx : SoundXH Try.prog noGhost γ0 cx) (hic : SoundIH Try.prog ic) (h : funN Try.prog cs cx ic sp isp f args res) (hp : flatS res) : Does Try.prog f true (SV.denL args) res.den :=
  funN_does hcs hcx hic mixed h hp
theorem one_cs {x : Ctr} (h : x.Ok Try.prog) : SoundS Try.prog (ctrs [x]) := ctrs_sound (by intro y hy; simp at hy; subst hy; exact h)
theorem three_cs {x y z : Ctr} (h : x.Ok Try.prog) (h2 : y.Ok Try.prog) (h3 : z.Ok Try.prog) : SoundS Try.prog (ctrs [x, y, z]) := ctrs_sound (by intro u hu; simp at hu; rcases hu with rfl | rfl | rfl; exact h; exact h2; exact h3)
theorem fr_true (n a b : Int) : frG n a b := by
  rw [frG_vc]
  simp only [and_true, Bool.false_eq_true, false_iff]
  exact ⟨fun h => ⟨fun h2 => ⟨h, h2⟩, fun h2 => h2.2⟩, fun h h2 => h h2.1⟩
theorem rin_true (n a b : Int) : rinG n a b := by
  rw [rinG_vc]
  simp only [and_true, Bool.false_eq_true, false_iff]
  exact ⟨fun h => ⟨fun h2 => ⟨h, h2⟩, fun h2 => h2.2⟩, fun h h2 => h h2.1⟩
theorem fr_ok : (frC 46).Ok Try.prog := by
  refine ⟨by kernel_rfl, fun x k hk => ?_⟩
  simp only [frC] at hk
  split at hk
  · rename_i n a b
    exact ⟨_, plainD nilS_cs nilS_x nilS_ic (fr_true n a b) trivial, hk⟩
  · exact hk.elim
theorem rin_ok : (frC 48).Ok Try.prog := by
  refine ⟨by kernel_rfl, fun x k hk => ?_⟩
  simp only [frC] at hk
  split at hk
  · rename_i n a b
    exact ⟨_, plainD nilS_cs nilS_x nilS_ic (rin_true n a b) trivial, hk⟩
  · exact hk.elim
theorem lst_den {s n : Nat} {f g : Nat → SV} (h : ∀ i, i < n → f i = g i) : (SV.lst s n f).den = (SV.lst s n g).den := by
  simp only [SV.den]
  congr 1
  apply List.map_congr_left
  intro i hi
  rw [h i (by simpa using hi)]
theorem at_true {n : Nat} {g : Nat → Int} (hn : n ≤ 1000) : atG n g := by
  rw [atG_vc]
  simp only [rI, rE, and_true, true_and, Nat.zero_lt_one, Bool.false_eq_true, false_iff, Classical.not_not, implies_true, Int.toNat_natCast, true_iff]
  refine ⟨⟨0, ⟨by omega, fun i hi => by omega⟩, rfl⟩, fun z hz => ⟨fun hl => ⟨by omega, hl, fun h1 h => h1 (h z (by omega)), fun h1 => ⟨by omega, z + 1, ⟨by omega, fun i hi => ?_⟩, by omega, by omega⟩⟩, fun hl i hi => hz.2 i (by omega)⟩⟩
  by_cases e : i < z
  · exact hz.2 i e
  · have : i = z := by omega
    subst this; exact h1
theorem at_ok : atC.Ok Try.prog := by
  refine ⟨by kernel_rfl, fun x k hk => ?_⟩
  simp only [atC] at hk
  split at hk
  · rename_i n f
    obtain ⟨g, hf, hn, hk⟩ := hk
    refine ⟨_, ?_, hk⟩
    have := plainD (one_cs fr_ok) nilS_x nilS_ic (at_true (g := g) hn) trivial
    unfold inL at this
    simp only [SV.denL] at this ⊢
    rw [lst_den hf]; exact this
  · exact hk.elim
theorem ng_true (n : Nt) : ngG n := by
  rw [ngG_vc]
  simp only [rI, rE, and_true, true_and, Nat.zero_lt_one, Bool.false_eq_true, false_iff, Classical.not_not, implies_true, Int.toNat_natCast, true_iff]
  refine ⟨fun i => match i with | 0 => n.du | 1 => n.da | 2 => n.ri | 3 => n.se | _ => n.le, fun i hi => ?_, by omega, fun h => ⟨fun h1 => ⟨fun h2 => ⟨h 0 (by omega), h 1 (by omega), h 2 (by omega), h 3 (by omega), h 4 (by omega), h1, h2⟩, fun h2 => h2.m⟩, fun h1 h2 => h1 h2.d⟩, fun h h2 => h fun i hi => ?_⟩
  · match i, hi with
    | 0, _ => rfl
    | 1, _ => rfl
    | 2, _ => rfl
    | 3, _ => rfl
    | 4, _ => rfl
  · match i, hi with
    | 0, _ => exact h2.du
    | 1, _ => exact h2.da
    | 2, _ => exact h2.ri
    | 3, _ => exact h2.se
    | 4, _ => exact h2.le
theorem ng_ok : (ngC 43).Ok Try.prog := by
  refine ⟨by kernel_rfl, fun x k hk => ?_⟩
  simp only [ngC] at hk
  split at hk
  · rename_i a b c d e
    exact ⟨_, plainD (one_cs at_ok) nilS_x nilS_ic (ng_true ⟨a, b, c, d, e⟩) trivial, hk⟩
  · exact hk.elim
theorem rng_true (n : Nt) : rngG n := by
  rw [rngG_vc]
  simp only [rI, rE, and_true, true_and, Nat.zero_lt_one, Bool.false_eq_true, false_iff, Classical.not_not, implies_true, Int.toNat_natCast, true_iff]
  have k : okN n → (0 ≤ n.1 ∧ n.1 ≤ n.2) ∧ n.2 ≤ 2880 ∧ (0 ≤ n.3 ∧ n.3 ≤ n.4) ∧ n.4 ≤ 2880 ∧ 0 ≤ n.5 ∧ n.5 ≤ 2880 := fun h => ⟨⟨h.du.1, h.d⟩, h.da.2, ⟨h.ri.1, h.m⟩, h.se.2, h.le⟩
  refine ⟨fun h1 => ⟨fun h2 => ⟨fun h3 => ⟨fun h4 => ⟨fun h5 => ⟨⟨h1.1, by omega⟩, ⟨by omega, h2⟩, ⟨h3.1, by omega⟩, ⟨by omega, h4⟩, h5, h1.2, h3.2⟩, fun h => (k h).2.2.2.2⟩, fun h4 h => h4 (k h).2.2.2.1⟩, fun h3 h => h3 (k h).2.2.1⟩, fun h2 h => h2 (k h).2.1⟩, fun h1 h => h1 (k h).1⟩
theorem rng_ok : (ngC 29).Ok Try.prog := by
  refine ⟨by kernel_rfl, fun x k hk => ?_⟩
  simp only [ngC] at hk
  split at hk
  · rename_i a b c d e
    exact ⟨_, plainD (one_cs rin_ok) nilS_x nilS_ic (rng_true ⟨a, b, c, d, e⟩) trivial, hk⟩
  · exact hk.elim
theorem mo_true (n : Nt) : moG n := by
  rw [moG_vc]
  simp only [and_true, true_and, Nat.zero_lt_one]
theorem mo_ok : moC.Ok Try.prog := by
  refine ⟨by kernel_rfl, fun x k hk => ?_⟩
  simp only [moC] at hk
  split at hk
  · rename_i a b c d e
    exact ⟨_, plainD nilS_cs nilS_x nilS_ic (mo_true ⟨a, b, c, d, e⟩) (by simp [plainS, plainS.plainL, Tw.sv]), hk⟩
  · exact hk.elim
theorem la_true {a b : Int} (h : rI (b - a)) : laG a b := by
  rw [laG_vc]
  simp only [rI] at h
  simp only [and_true, true_and, Nat.zero_lt_one]
  exact h
theorem la_ok : laC.Ok Try.prog := by
  refine ⟨by kernel_rfl, fun x k hk => ?_⟩
  simp only [laC] at hk
  split at hk
  · rename_i a b
    obtain ⟨h1, hk⟩ := hk
    exact ⟨_, plainD nilS_cs nilS_x nilS_ic (la_true h1) trivial, hk⟩
  · exact hk.elim
theorem flt_yes {g : Nat → Tw} {k : Nat} (h : (g k).lo < (g k).hi) : flt g (k + 1) = flt g k ++ [g k] := by simp only [flt]; exact if_pos h
theorem flt_no {g : Nat → Tw} {k : Nat} (h : ¬ (g k).lo < (g k).hi) : flt g (k + 1) = flt g k := by simp only [flt]; exact if_neg h
theorem flt_len {g : Nat → Tw} : ∀ k, fN g k ≤ k
  | 0 => by simp [fN, flt]
  | k + 1 => by
    have := flt_len (g := g) k
    unfold fN at this ⊢
    by_cases h : (g k).lo < (g k).hi
    · rw [flt_yes h]; simp; omega
    · rw [flt_no h]; omega
theorem fF_yes {g : Nat → Tw} {k i : Nat} (h : (g k).lo < (g k).hi) (hi : i < fN g k + 1) : fF g (k + 1) i = if i < fN g k then fF g k i else g k := by
  unfold fF fN at *
  rw [flt_yes h]
  by_cases e : i < (flt g k).length
  · rw [if_pos e]; simp [List.getD, List.getElem?_append_left e]
  · have : i = (flt g k).length := by omega
    subst this
    rw [if_neg e]; simp [List.getD]
theorem so_true {n : Nat} {g : Nat → Tw} (hn : n ≤ 1000) (hb : ∀ i, i < n → tm (g i).lo ∧ tm (g i).hi) : soG n g := by
  rw [soG_vc]
  simp only [rI, rE, tt3, tt4, and_true, true_and, Nat.zero_lt_one, and_self, Bool.false_eq_true, false_iff, Classical.not_not, implies_true, Int.toNat_natCast, true_iff, Nat.add_zero, Nat.zero_add]
  refine ⟨⟨0, by omega, by simp [fN, flt], rfl, by simp [fN, flt]⟩, fun z hz => ⟨fun hl => ?_, fun hl => ?_⟩⟩
  · have hb := hb z (by omega)
    unfold tm at hb
    have hk := flt_len (g := g) z
    refine ⟨by omega, hl, by omega, fun h => ?_, fun h => ?_⟩
    · have h : (g z).lo < (g z).hi := by omega
      have e : fN g (z + 1) = fN g z + 1 := by unfold fN; rw [flt_yes h]; simp
      refine ⟨by omega, by omega, by omega, z + 1, by omega, by omega, e.symm, by omega, e, fun i hi => ?_⟩
      rw [fF_yes h (by omega)]
      by_cases e2 : i < fN g z
      · simp only [if_pos e2]; exact ⟨trivial, trivial⟩
      · simp only [if_neg e2]; exact ⟨trivial, trivial⟩
    · have h : ¬ (g z).lo < (g z).hi := by omega
      have e : fN g (z + 1) = fN g z := by unfold fN; rw [flt_no h]
      have e2 : fF g (z + 1) = fF g z := by funext i; unfold fF; rw [flt_no h]
      refine ⟨by omega, z + 1, by omega, by omega, e.symm, by omega, e, fun i hi => ?_⟩
      rw [e2]; exact ⟨rfl, rfl⟩
  · have : z = n := by omega
    subst this
    exact ⟨rfl, by omega, fun i hi => ⟨rfl, rfl⟩⟩
theorem so_ok : soC.Ok Try.prog := by
  refine ⟨by kernel_rfl, fun x k hk => ?_⟩
  simp only [soC] at hk
  split at hk
  · rename_i n f
    obtain ⟨g, hf, hn, hb, hk⟩ := hk
    refine ⟨_, ?_, hk⟩
    have := newD (one_cs la_ok) nilS_x nilS_ic (so_true hn hb) (by simp [flatS, flatSL, scS, SV.cells, twL, Tw.sv])
    unfold twL at this ⊢
    simp only [SV.denL] at this ⊢
    rw [lst_den hf]; exact this
  · exact hk.elim
theorem bl_short {n : Nt} (h : (gM n).hi - (gM n).lo < max n.le 1) : bl n = flt (c1 n) 1 := if_pos h
theorem bl_long {n : Nt} (h : ¬ (gM n).hi - (gM n).lo < max n.le 1) : bl n = flt (c2 n) 2 := if_neg h
theorem gm_bd {n : Nt} (h : okN n) : tm (gM n).lo ∧ tm (gM n).hi := by
  have h1 := h.du
  have h2 := h.da
  have h3 := h.ri
  have h4 := h.se
  unfold tm at *
  simp only [gM]
  omega
theorem bu_true {n : Nt} (h : okN n) : buG n := by
  rw [buG_vc]
  have hm := gm_bd h
  have e0 : Nt.mk n.du n.da n.ri n.se n.le = n := rfl
  have e1 : (gM n).hi - (gM n).lo = min n.2 n.4 - max n.1 n.3 := rfl
  simp only [rI, rE, tt3, tt4, and_true, true_and, Nat.zero_lt_one, and_self, Bool.false_eq_true, false_iff, Classical.not_not, implies_true, Int.toNat_natCast, true_iff, Nat.add_zero, Nat.zero_add, e0]
  refine ⟨by unfold tm at hm; omega, fun hs => ?_, fun hs => ?_⟩
  · have hs : (gM n).hi - (gM n).lo < max n.le 1 := by rw [e1]; exact hs
    rw [bl_short hs]
    refine ⟨c1 n, fun i hi => ?_, by omega, fun i hi => ⟨h.du, h.da⟩, rfl, fun i hi => rfl⟩
    have : i = 0 := by omega
    subst this; rfl
  · have hs : ¬ (gM n).hi - (gM n).lo < max n.le 1 := by rw [e1]; exact hs
    rw [bl_long hs]
    refine ⟨c2 n, fun i hi => ?_, by omega, fun i hi => ?_, rfl, fun i hi => rfl⟩
    · match i, hi with
      | 0, _ => rfl
      | 1, _ => rfl
    · match i, hi with
      | 0, _ => exact ⟨h.du, hm.1⟩
      | 1, _ => exact ⟨hm.2, h.da⟩
theorem bu_ok : buC.OkF Try.prog := by
  refine ⟨by kernel_rfl, fun x k hk => ?_⟩
  simp only [buC] at hk
  split at hk
  · rename_i a b c d e
    obtain ⟨h1, hk⟩ := hk
    exact ⟨_, funH_does (three_cs mo_ok la_ok so_ok) nilS_x nilS_ic mixed (bu_true h1), hk⟩
  · exact hk.elim
theorem br_true (n : Nt) : brG n := by
  rw [brG_vc]
  have e0 : Nt.mk n.du n.da n.ri n.se n.le = n := rfl
  simp only [rI, rE, tt3, tt4, and_true, true_and, Nat.zero_lt_one, and_self, Bool.false_eq_true, false_iff, Classical.not_not, implies_true, Int.toNat_natCast, true_iff, Nat.add_zero, Nat.zero_add, e0]
  refine ⟨fun h => ?_, fun h => ?_⟩
  · rw [rl, if_neg h, er, if_neg h]; exact ⟨rfl, rfl⟩
  · rw [rl, if_pos h, er, if_pos h]; exact ⟨h, rfl, fun i hi => rfl, rfl⟩
theorem br_cs : SoundS Try.prog (ctrsF [buC] (ctrs [ngC 43])) := ctrsF_sound (one_cs ng_ok) (by intro y hy; simp at hy; subst hy; exact bu_ok)
theorem br_ok : brC.OkF Try.prog := by
  refine ⟨by kernel_rfl, fun x k hk => ?_⟩
  simp only [brC] at hk
  split at hk
  · rename_i a b c d e
    exact ⟨_, funH_does br_cs nilS_x nilS_ic mixed (br_true ⟨a, b, c, d, e⟩), hk⟩
  · exact hk.elim
end Go.Proofs.Ytaoegpjlpiminaa
