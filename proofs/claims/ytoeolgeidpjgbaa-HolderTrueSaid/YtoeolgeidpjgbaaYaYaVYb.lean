import Derived.Test.YtoeolgeidpjgbaaVkXnXo
import Derived.Test.YtoeolgeidpjgbaaPfPgPh
set_option linter.unusedVariables false
namespace Go.Proofs.Ytoeolgeidpjgbaa
open Go Go.Lg
attribute [local irreducible] funS bodyH
structure Bs where
  n : Nat
  v : Nat → Int
def Bs.sv (b : Bs) : SV := .lst 1 b.n fun k => .int .u32 (b.v k)
def yOf (x : SV) : Bs := ⟨lenV x, fun k => Go.Lg.prI (eltV x k)⟩
structure okB (b : Bs) : Prop where
  n : 1 ≤ b.n
  v : ∀ k, k < b.n → 0 ≤ b.v k ∧ b.v k < 4294967296
def drw (b : Bs) (z : Int) (lo hi : Int) : Int := lo + (b.v (z.tmod b.n).toNat).tmod (hi - lo + 1)
structure okP (b : Bs) (z lo hi : Int) : Prop where
  b : okB b
  z : 0 ≤ z ∧ z ≤ 1000
  s : 0 ≤ lo ∧ lo ≤ hi ∧ hi ≤ 1073741824
def bOf' (n : Nat) (f : Nat → SV) : Bs := ⟨n, fun i => Go.Lg.prI (f i)⟩
def pickC : Ctr := ⟨36, fun args k => match args with
  | [.agg [.int .i64 lo, .int .i64 hi], .int .i64 z, .ipt [.lst sz n f]] => sz = 1 ∧ f = (fun i => .int .u32 (Go.Lg.prI (f i))) ∧ okP (bOf' n f) z lo hi ∧ k (i6 (drw (bOf' n f) z lo hi))
  | _ => False⟩
noncomputable def pickG (b : Bs) (z lo hi : Int) : Prop := funH Try.prog (ctrs []) noX (ictrs []) noL noL 36 [.agg [i6 lo, i6 hi], i6 z, .ipt [b.sv]] (i6 (drw b z lo hi))
def lowA (w : Wt) (p : Nat → Int) : Nat → Int
  | 0 => w.s0
  | i + 1 => lowA w p i + w.yield * p i - w.dh i
def higA (w : Wt) (p : Nat → Int) : Nat → Int
  | 0 => w.s1
  | i + 1 => higA w p i + w.yield * p i - w.dl i
def nowA (w : Wt) (p : Nat → Int) (b : Bs) : Nat → Int
  | 0 => drw b 0 w.s0 w.s1
  | i + 1 => nowA w p b i + w.yield * p i - drw b (i + 1) (w.dl i) (w.dh i)
def spnC : Ctr := ⟨33, fun x k => match x with
  | [.int .i64 a, .int .i64 b] => k (.agg [i6 a, i6 b])
  | _ => False⟩
noncomputable def spnG (a b : Int) : Prop := funH Try.prog (ctrs []) noX (ictrs []) noL noL 33 [i6 a, i6 b] (.agg [i6 a, i6 b])
noncomputable def csT : CSpec := ctrsF [greatC, holdsC 20 heldK, watchC 34, isPlanC 35] (ctrs [aliveC, pickC, spnC])
structure invT (w : Wt) (m : Nat) (p : Nat → Int) (b : Bs) (i : Nat) : Prop where
  hi : i ≤ m
  hw : watchP w
  hp : isPlanP w m p
  hb : okB b
  hh : (i : Int) ≤ hH w m p
noncomputable def trueG (w : Wt) (m : Nat) (p : Nat → Int) (b : Bs) : Prop := funH Try.prog csT noX (ictrs [])
  (oneL 0 (natH (invT w m p b) (fun i => m - i) 2 (fun i => mkF 220 [(1, planV m p), (3, .ptr 0 0 0), (5, .ptr 1 0 0), (7, .lst 2 (hN w m p) (heldK w p)), (8, i6 (hH w m p)), (9, i6 (hEr w m p)), (10, .clo (.func 36) [] [.ptr 1 0 0]), (11, i6 (nowA w p b i)), (12, i6 (lowA w p i)), (13, i6 (higA w p i)), (100, i6 m), (101, i6 i)])
    (fun _ => Go.Lg.mkX [Go.Lg.vr 10 w.sv, Go.Lg.vr 1 b.sv]) fun _ => none)) noL 8 [w.sv, planV m p, b.sv] (.bool true)
end Go.Proofs.Ytoeolgeidpjgbaa

set_option linter.unusedVariables false
set_option maxRecDepth 100000
namespace Go.Proofs.Ytoeolgeidpjgbaa
open Go Go.Lg
theorem pickG_vc (b : Bs) (z : Int) (lo : Int) (hi : Int) : pickG b z lo hi = ((0 : Nat) < (1 : Nat) ∧ ((↑b.1 : Int) = (0 : Int) → False) ∧ (0 : Int) ≤ z.tmod (↑b.1 : Int) ∧ z.tmod (↑b.1 : Int) < (↑b.1 : Int) ∧ ((-9223372036854775808 : Int) ≤ b.2 (z.tmod (↑b.n : Int)).toNat ∧ b.2 (z.tmod (↑b.n : Int)).toNat ≤ (9223372036854775807 : Int)) ∧ (0 : Nat) < (1 : Nat) ∧ (0 : Nat) < (1 : Nat) ∧ ((-9223372036854775808 : Int) ≤ hi - lo ∧ hi - lo ≤ (9223372036854775807 : Int)) ∧ ((-9223372036854775808 : Int) ≤ hi - lo + (1 : Int) ∧ hi - lo + (1 : Int) ≤ (9223372036854775807 : Int)) ∧ (hi - lo + (1 : Int) = (0 : Int) → False) ∧ ((-9223372036854775808 : Int) ≤ lo + (b.2 (z.tmod (↑b.n : Int)).toNat).tmod (hi - lo + (1 : Int)) ∧ lo + (b.2 (z.tmod (↑b.n : Int)).toNat).tmod (hi - lo + (1 : Int)) ≤ (9223372036854775807 : Int)) ∧ lo + (b.2 (z.tmod (↑b.n : Int)).toNat).tmod (hi - lo + (1 : Int)) = drw b z lo hi ∧ True) := by kernel_rfl
theorem spnG_vc (a : Int) (b : Int) : spnG a b = ((0 : Nat) < (1 : Nat) ∧ a = a ∧ b = b ∧ True) := by kernel_rfl
theorem trueG_vc (w : Wt) (m : Nat) (p : Nat → Int) (b : Bs) : trueG w m p b = ((0 : Nat) < (1 : Nat) ∧ (∀ (i : Nat), i < w.5 → True ∧ True ∧ True) ∧ w.sv = w.sv ∧ ((12 : Int) < (↑w.n : Int) ∧ (↑w.n : Int) ≤ (12 : Int) ∨ (20 : Int) < (↑w.n : Int) → true = true ∧ True) ∧ (¬((12 : Int) < (↑w.n : Int) ∧ (↑w.n : Int) ≤ (12 : Int) ∨ (20 : Int) < (↑w.n : Int)) → ((30 : Int) < (↑m : Int) → true = true ∧ True) ∧ (¬(30 : Int) < (↑m : Int) → (0 : Nat) < (1 : Nat) ∧ ((↑b.1 : Int) = (0 : Int) → true = true ∧ True) ∧ (¬(↑b.1 : Int) = (0 : Int) → (0 : Nat) < (1 : Nat) ∧ (∀ (i : Nat), i < w.5 → True ∧ True ∧ True) ∧ (∀ (i : Nat), i < m → True) ∧ w.sv = w.sv ∧ (1 : Nat) = (1 : Nat) ∧ ((fun (i : Nat) => Ytoeolgeidpjgbaa.i6 (p i)) = fun (i : Nat) => Ytoeolgeidpjgbaa.i6 (p i)) ∧ m ≤ (30 : Nat) ∧ ((hEr w m p) = (1 : Int) → ((↑(hN w m p) : Int) = (0 : Int) → ((hH w m p) = (0 : Int) → (0 : Nat) < (1 : Nat) ∧ (∀ (i : Nat), i < w.5 → True ∧ True ∧ True) ∧ w.sv = w.sv ∧ (((hEr w m p) = (1 : Int) ↔ ¬watchP w) → true = true ∧ True) ∧ (¬((hEr w m p) = (1 : Int) ↔ ¬watchP w) → false = true ∧ True)) ∧ (¬(hH w m p) = (0 : Int) → false = true ∧ True)) ∧ (¬(↑(hN w m p) : Int) = (0 : Int) → false = true ∧ True)) ∧ (¬(hEr w m p) = (1 : Int) → ((hEr w m p) = (2 : Int) → ((↑(hN w m p) : Int) = (0 : Int) → ((hH w m p) = (0 : Int) → (0 : Nat) < (1 : Nat) ∧ (∀ (i : Nat), i < w.5 → True ∧ True ∧ True) ∧ w.sv = w.sv ∧ (((hEr w m p) = (1 : Int) ↔ ¬watchP w) → true = true ∧ True) ∧ (¬((hEr w m p) = (1 : Int) ↔ ¬watchP w) → false = true ∧ True)) ∧
 (¬(hH w m p) = (0 : Int) → false = true ∧ True)) ∧ (¬(↑(hN w m p) : Int) = (0 : Int) → false = true ∧ True)) ∧ (¬(hEr w m p) = (2 : Int) → (0 : Nat) < (1 : Nat) ∧ (∀ (i : Nat), i < w.5 → True ∧ True ∧ True) ∧ w.sv = w.sv ∧ (¬watchP w → false = true ∧ True) ∧ (¬¬watchP w → (0 : Nat) < (1 : Nat) ∧ (∀ (i : Nat), i < w.5 → True ∧ True ∧ True) ∧ (∀ (i : Nat), i < m → True) ∧ w.sv = w.sv ∧ (1 : Nat) = (1 : Nat) ∧ ((fun (i : Nat) => Ytoeolgeidpjgbaa.i6 (p i)) = fun (i : Nat) => Ytoeolgeidpjgbaa.i6 (p i)) ∧ m ≤ (1000 : Nat) ∧ ((¬isPlanP w m p) → false = true ∧ True) ∧ ((¬¬isPlanP w m p) → ((hH w m p) < (0 : Int) → false = true ∧ True) ∧ (¬(hH w m p) < (0 : Int) → (((↑m : Int) < hH w m p) → false = true ∧ True) ∧ ((¬(↑m : Int) < hH w m p) → (¬((hEr w m p) = (0 : Int) ↔ (hH w m p) = (↑m : Int)) → false = true ∧ True) ∧ (¬¬((hEr w m p) = (0 : Int) ↔ (hH w m p) = (↑m : Int)) → (0 : Nat) < (1 : Nat) ∧ (0 : Nat) < (1 : Nat) ∧ (1 : Nat) = (1 : Nat) ∧ (∀ (i : Nat), i < b.1 → True) ∧ (1 : Nat) = (1 : Nat) ∧ ((fun (k : Nat) => SV.int IntKind.u32 (b.v k)) = fun (i : Nat) => SV.int IntKind.u32 (Lg.prI (SV.int IntKind.u32 (b.v i)))) ∧ okP b (0 : Int) w.s0 w.s1 ∧ (0 : Nat) < (1 : Nat) ∧ (0 : Nat) < (1 : Nat) ∧ (∃ (z : Nat), invT w m p b z ∧ m = m ∧ (∀ (i : Nat), i < m → (Ytoeolgeidpjgbaa.i6 (p i)).den = (Ytoeolgeidpjgbaa.i6 (p i)).den ∧ True) ∧ (0 : Nat) = (0 : Nat) ∧ (0 : Nat) = (0 : Nat) ∧ (0 : Nat) = (0 : Nat) ∧ (0 : Nat) = (0 : Nat) ∧ (hN w m p) = hN w m p ∧ (∀ (i : Nat), i < hN w m p → (heldK w p
 i).den = (heldK w p i).den ∧ True ∧ True ∧ True) ∧ (hH w m p) = hH w m p ∧ (hEr w m p) = hEr w m p ∧ Fn.func (36 : Nat) = Fn.func (36 : FuncId) ∧ (0 : Nat) = (0 : Nat) ∧ (0 : Nat) = (0 : Nat) ∧ drw b (0 : Int) w.3 w.4 = nowA w p b z ∧ w.3 = lowA w p z ∧ w.4 = higA w p z ∧ (↑m : Int) = (↑m : Int) ∧ (0 : Int) = (↑z : Int) ∧ w.1 = w.1 ∧ w.2 = w.2 ∧ w.3 = w.3 ∧ w.4 = w.4 ∧ w.5 = w.5 ∧ (∀ (i : Nat), i < w.5 → (SV.agg [Ytoeolgeidpjgbaa.i6 (w.dl i), Ytoeolgeidpjgbaa.i6 (w.dh i)]).den = (SV.agg [Ytoeolgeidpjgbaa.i6 (w.dl i), Ytoeolgeidpjgbaa.i6 (w.dh i)]).den ∧ True ∧ True ∧ True) ∧ w.8 = w.8 ∧ w.9 = w.9 ∧ w.10 = w.10 ∧ w.11 = w.11 ∧ w.12 = w.12 ∧ b.1 = b.1 ∧ (∀ (i : Nat), i < b.1 → (SV.int IntKind.u32 (b.v i)).den = (SV.int IntKind.u32 (b.v i)).den ∧ True) ∧ True) ∧ ∀ (z : Nat), invT w m p b z → ((↑z : Int) < (↑m : Int) → (0 : Nat) < (1 : Nat) ∧ (0 : Int) ≤ (↑z : Int) ∧ (↑z : Int) < (↑m : Int) ∧ ((-9223372036854775808 : Int) ≤ w.10 * p (↑z : Int).toNat ∧ w.10 * p (↑z : Int).toNat ≤ (9223372036854775807 : Int)) ∧ ((-9223372036854775808 : Int) ≤ nowA w p b z + w.10 * p (↑z : Int).toNat ∧ nowA w p b z + w.10 * p (↑z : Int).toNat ≤ (9223372036854775807 : Int)) ∧ (0 : Nat) < (1 : Nat) ∧ (0 : Int) ≤ (↑z : Int) ∧ (↑z : Int) < (↑w.5 : Int) ∧ ((-9223372036854775808 : Int) ≤ (↑z : Int) + (1 : Int) ∧ (↑z : Int) + (1 : Int) ≤ (9223372036854775807 : Int)) ∧ (0 : Nat) < (1 : Nat) ∧ (1 : Nat) = (1 : Nat) ∧ (∀ (i : Nat), i < b.1 → True) ∧ (1 : Nat) = (1 : Nat) ∧ ((fun (k : Nat) => SV.int IntKind.u32 (b.v k)) = fun (i : Nat) => SV.int IntKind.u32 (Lg.prI (SV.int IntKind.u32 (b.v i)))) ∧ okP b ((↑z : Int) + (1 : Int)) (w.dl (↑z : Int).toNat) (w.dh (↑z : Int).toNat) ∧ ((-9223372036854775808 : Int) ≤ nowA w p b z + w.10 * p (↑z : Int).toNat - drw b ((↑z :
 Int) + (1 : Int)) (w.6 (↑z : Int).toNat) (w.7 (↑z : Int).toNat) ∧ nowA w p b z + w.10 * p (↑z : Int).toNat - drw b ((↑z : Int) + (1 : Int)) (w.6 (↑z : Int).toNat) (w.7 (↑z : Int).toNat) ≤ (9223372036854775807 : Int)) ∧ ((-9223372036854775808 : Int) ≤ lowA w p z + w.10 * p (↑z : Int).toNat ∧ lowA w p z + w.10 * p (↑z : Int).toNat ≤ (9223372036854775807 : Int)) ∧ (0 : Nat) < (1 : Nat) ∧ (0 : Int) ≤ (↑z : Int) ∧ (↑z : Int) < (↑w.5 : Int) ∧ ((-9223372036854775808 : Int) ≤ lowA w p z + w.10 * p (↑z : Int).toNat - w.7 (↑z : Int).toNat ∧ lowA w p z + w.10 * p (↑z : Int).toNat - w.7 (↑z : Int).toNat ≤ (9223372036854775807 : Int)) ∧ ((-9223372036854775808 : Int) ≤ higA w p z + w.10 * p (↑z : Int).toNat ∧ higA w p z + w.10 * p (↑z : Int).toNat ≤ (9223372036854775807 : Int)) ∧ (0 : Nat) < (1 : Nat) ∧ (0 : Int) ≤ (↑z : Int) ∧ (↑z : Int) < (↑w.5 : Int) ∧ ((-9223372036854775808 : Int) ≤ higA w p z + w.10 * p (↑z : Int).toNat - w.6 (↑z : Int).toNat ∧ higA w p z + w.10 * p (↑z : Int).toNat - w.6 (↑z : Int).toNat ≤ (9223372036854775807 : Int)) ∧ ((↑z : Int) = hH w m p → ((↑(hN w m p) : Int) = (0 : Int) → (hEr w m p = (10 : Int) → (0 : Nat) < (1 : Nat) ∧ (lowA w p z + w.10 * p (↑z : Int).toNat - w.7 (↑z : Int).toNat < w.2 → true = true ∧ True) ∧ (¬lowA w p z + w.10 * p (↑z : Int).toNat - w.7 (↑z : Int).toNat < w.2 → (hEr w m p = (9 : Int) → (0 : Nat) < (1 : Nat) ∧ (w.1 < higA w p z + w.10 * p (↑z : Int).toNat - w.6 (↑z : Int).toNat → (0 : Nat) < (1 : Nat) ∧ (w.2 ≤ lowA w p z + w.10 * p (↑z : Int).toNat - w.7 (↑z : Int).toNat → true = true ∧ True) ∧ (¬w.2 ≤ lowA w p z + w.10 * p (↑z : Int).toNat - w.7 (↑z : Int).toNat → false = true ∧ True)) ∧ (¬w.1 < higA w p z + w.10 * p (↑z : Int).toNat - w.6 (↑z : Int).toNat → false = true ∧ True)) ∧ (¬hEr w m p = (9 : Int) → false = true ∧
 True))) ∧ (¬hEr w m p = (10 : Int) → (hEr w m p = (9 : Int) → (0 : Nat) < (1 : Nat) ∧ (w.1 < higA w p z + w.10 * p (↑z : Int).toNat - w.6 (↑z : Int).toNat → (0 : Nat) < (1 : Nat) ∧ (w.2 ≤ lowA w p z + w.10 * p (↑z : Int).toNat - w.7 (↑z : Int).toNat → true = true ∧ True) ∧ (¬w.2 ≤ lowA w p z + w.10 * p (↑z : Int).toNat - w.7 (↑z : Int).toNat → false = true ∧ True)) ∧ (¬w.1 < higA w p z + w.10 * p (↑z : Int).toNat - w.6 (↑z : Int).toNat → false = true ∧ True)) ∧ (¬hEr w m p = (9 : Int) → false = true ∧ True))) ∧ (¬(↑(hN w m p) : Int) = (0 : Int) → false = true ∧ True)) ∧ (¬(↑z : Int) = hH w m p → (0 : Nat) < (1 : Nat) ∧ (lowA w p z + w.10 * p (↑z : Int).toNat - w.7 (↑z : Int).toNat < w.2 → false = true ∧ True) ∧ (¬lowA w p z + w.10 * p (↑z : Int).toNat - w.7 (↑z : Int).toNat < w.2 → (0 : Nat) < (1 : Nat) ∧ (w.1 < higA w p z + w.10 * p (↑z : Int).toNat - w.6 (↑z : Int).toNat → false = true ∧ True) ∧ (¬w.1 < higA w p z + w.10 * p (↑z : Int).toNat - w.6 (↑z : Int).toNat → (nowA w p b z + w.10 * p (↑z : Int).toNat - drw b ((↑z : Int) + (1 : Int)) (w.6 (↑z : Int).toNat) (w.7 (↑z : Int).toNat) < lowA w p z + w.10 * p (↑z : Int).toNat - w.7 (↑z : Int).toNat → false = true ∧ True) ∧ (¬nowA w p b z + w.10 * p (↑z : Int).toNat - drw b ((↑z : Int) + (1 : Int)) (w.6 (↑z : Int).toNat) (w.7 (↑z : Int).toNat) < lowA w p z + w.10 * p (↑z : Int).toNat - w.7 (↑z : Int).toNat → (higA w p z + w.10 * p (↑z : Int).toNat - w.6 (↑z : Int).toNat < nowA w p b z + w.10 * p (↑z : Int).toNat - drw b ((↑z : Int) + (1 : Int)) (w.6 (↑z : Int).toNat) (w.7 (↑z : Int).toNat) → false = true ∧ True) ∧ (¬higA w p z + w.10 * p (↑z : Int).toNat - w.6 (↑z : Int).toNat < nowA w p b z + w.10 * p (↑z : Int).toNat - drw b ((↑z : Int) + (1 : Int)) (w.6 (↑z : Int).toNat) (w.7 (↑z : Int).toNat) → (hEr w m p = (0 :
 Int) → (¬(↑(hN w m p) : Int) = (↑m : Int) → false = true ∧ True) ∧ (¬¬(↑(hN w m p) : Int) = (↑m : Int) → (0 : Int) ≤ (↑z : Int) ∧ (↑z : Int) < (↑(hN w m p) : Int) ∧ (¬(loK w p (↑z : Int).toNat = lowA w p z + w.10 * p (↑z : Int).toNat - w.7 (↑z : Int).toNat ∧ hiK w p (↑z : Int).toNat = higA w p z + w.10 * p (↑z : Int).toNat - w.6 (↑z : Int).toNat) → false = true ∧ True) ∧ (¬¬(loK w p (↑z : Int).toNat = lowA w p z + w.10 * p (↑z : Int).toNat - w.7 (↑z : Int).toNat ∧ hiK w p (↑z : Int).toNat = higA w p z + w.10 * p (↑z : Int).toNat - w.6 (↑z : Int).toNat) → ((-9223372036854775808 : Int) ≤ (↑z : Int) + (1 : Int) ∧ (↑z : Int) + (1 : Int) ≤ (9223372036854775807 : Int)) ∧ ∃ (z_1 : Nat), invT w m p b z_1 ∧ m - z_1 < m - z ∧ m = m ∧ (∀ (i : Nat), i < m → (Ytoeolgeidpjgbaa.i6 (p i)).den = (Ytoeolgeidpjgbaa.i6 (p i)).den ∧ True) ∧ (0 : Nat) = (0 : Nat) ∧ (0 : Nat) = (0 : Nat) ∧ (0 : Nat) = (0 : Nat) ∧ (0 : Nat) = (0 : Nat) ∧ hN w m p = hN w m p ∧ (∀ (i : Nat), i < hN w m p → (heldK w p i).den = (heldK w p i).den ∧ True ∧ True ∧ True) ∧ hH w m p = hH w m p ∧ hEr w m p = hEr w m p ∧ Fn.func (36 : FuncId) = Fn.func (36 : FuncId) ∧ (0 : Nat) = (0 : Nat) ∧ (0 : Nat) = (0 : Nat) ∧ nowA w p b z + w.10 * p (↑z : Int).toNat - drw b ((↑z : Int) + (1 : Int)) (w.6 (↑z : Int).toNat) (w.7 (↑z : Int).toNat) = nowA w p b z_1 ∧ lowA w p z + w.10 * p (↑z : Int).toNat - w.7 (↑z : Int).toNat = lowA w p z_1 ∧ higA w p z + w.10 * p (↑z : Int).toNat - w.6 (↑z : Int).toNat = higA w p z_1 ∧ (↑m : Int) = (↑m : Int) ∧ (↑z : Int) + (1 : Int) = (↑z_1 : Int) ∧ w.1 = w.1 ∧ w.2 = w.2 ∧ w.3 = w.3 ∧ w.4 = w.4 ∧ w.5 = w.5 ∧ (∀ (i : Nat), i < w.5 → (SV.agg [Ytoeolgeidpjgbaa.i6 (w.dl i), Ytoeolgeidpjgbaa.i6 (w.dh i)]).den = (SV.agg [Ytoeolgeidpjgbaa.i6 (w.dl i), Ytoeolgeidpjgbaa.i6 (w.dh i)]).den ∧ True ∧ True ∧
 True) ∧ w.8 = w.8 ∧ w.9 = w.9 ∧ w.10 = w.10 ∧ w.11 = w.11 ∧ w.12 = w.12 ∧ b.1 = b.1 ∧ (∀ (i : Nat), i < b.1 → (SV.int IntKind.u32 (b.v i)).den = (SV.int IntKind.u32 (b.v i)).den ∧ True) ∧ True))) ∧ (¬hEr w m p = (0 : Int) → ((-9223372036854775808 : Int) ≤ (↑z : Int) + (1 : Int) ∧ (↑z : Int) + (1 : Int) ≤ (9223372036854775807 : Int)) ∧ ∃ (z_1 : Nat), invT w m p b z_1 ∧ m - z_1 < m - z ∧ m = m ∧ (∀ (i : Nat), i < m → (Ytoeolgeidpjgbaa.i6 (p i)).den = (Ytoeolgeidpjgbaa.i6 (p i)).den ∧ True) ∧ (0 : Nat) = (0 : Nat) ∧ (0 : Nat) = (0 : Nat) ∧ (0 : Nat) = (0 : Nat) ∧ (0 : Nat) = (0 : Nat) ∧ hN w m p = hN w m p ∧ (∀ (i : Nat), i < hN w m p → (heldK w p i).den = (heldK w p i).den ∧ True ∧ True ∧ True) ∧ hH w m p = hH w m p ∧ hEr w m p = hEr w m p ∧ Fn.func (36 : FuncId) = Fn.func (36 : FuncId) ∧ (0 : Nat) = (0 : Nat) ∧ (0 : Nat) = (0 : Nat) ∧ nowA w p b z + w.10 * p (↑z : Int).toNat - drw b ((↑z : Int) + (1 : Int)) (w.6 (↑z : Int).toNat) (w.7 (↑z : Int).toNat) = nowA w p b z_1 ∧ lowA w p z + w.10 * p (↑z : Int).toNat - w.7 (↑z : Int).toNat = lowA w p z_1 ∧ higA w p z + w.10 * p (↑z : Int).toNat - w.6 (↑z : Int).toNat = higA w p z_1 ∧ (↑m : Int) = (↑m : Int) ∧ (↑z : Int) + (1 : Int) = (↑z_1 : Int) ∧ w.1 = w.1 ∧ w.2 = w.2 ∧ w.3 = w.3 ∧ w.4 = w.4 ∧ w.5 = w.5 ∧ (∀ (i : Nat), i < w.5 → (SV.agg [Ytoeolgeidpjgbaa.i6 (w.dl i), Ytoeolgeidpjgbaa.i6 (w.dh i)]).den = (SV.agg [Ytoeolgeidpjgbaa.i6 (w.dl i), Ytoeolgeidpjgbaa.i6 (w.dh i)]).den ∧ True ∧ True ∧ True) ∧ w.8 = w.8 ∧ w.9 = w.9 ∧ w.10 = w.10 ∧ w.11 = w.11 ∧ w.12 = w.12 ∧ b.1 = b.1 ∧ (∀ (i : Nat), i < b.1 → (SV.int IntKind.u32 (b.v i)).den = (SV.int IntKind.u32 (b.v i)).den ∧ True) ∧ True))))))) ∧ (¬(↑z : Int) < (↑m : Int) → true = true ∧ True)))))))))))) := by kernel_rfl
end Go.Proofs.Ytoeolgeidpjgbaa

set_option linter.unusedVariables false
set_option maxRecDepth 100000
namespace Go.Proofs.Ytoeolgeidpjgbaa
open Go Go.Lg
attribute [local irreducible] funS bodyH
theorem spnG_true (a b : Int) : spnG a b := by rw [spnG_vc]; simp
theorem dr_ix {b : Bs} (hb : okB b) {Z : Int} (h0 : 0 ≤ Z) : 0 ≤ Z.tmod (b.n : Int) ∧ Z.tmod (b.n : Int) < (b.n : Int) :=
  ⟨Int.tmod_nonneg _ h0, Int.tmod_lt_of_pos _ (by have := hb.n; omega)⟩
theorem dr_v {b : Bs} (hb : okB b) {Z : Int} (h0 : 0 ≤ Z) : 0 ≤ b.v (Z.tmod (b.n : Int)).toNat ∧ b.v (Z.tmod (b.n : Int)).toNat < 4294967296 := by
  have := dr_ix hb h0
  exact hb.v _ (by omega)
theorem dr_in {b : Bs} (hb : okB b) {Z lo hi : Int} (h0 : 0 ≤ Z) (h : lo ≤ hi) : 0 ≤ (b.v (Z.tmod (b.n : Int)).toNat).tmod (hi - lo + 1) ∧ (b.v (Z.tmod (b.n : Int)).toNat).tmod (hi - lo + 1) ≤ hi - lo := by
  have h1 := dr_v hb h0
  have h2 := Int.tmod_nonneg (hi - lo + 1) h1.1
  have h3 := Int.tmod_lt_of_pos (b.v (Z.tmod (b.n : Int)).toNat) (b := hi - lo + 1) (by omega)
  omega
theorem drw_in {b : Bs} {Z lo hi : Int} (h : okP b Z lo hi) : lo ≤ drw b Z lo hi ∧ drw b Z lo hi ≤ hi := by
  have h1 := h.z
  have h2 := h.s
  have := dr_in h.b h1.1 h2.2.1
  unfold drw; omega
theorem pick_true {b : Bs} {z lo hi : Int} (h : okP b z lo hi) : pickG b z lo hi := by
  rw [pickG_vc]
  have hb := h.b
  have h1 := h.z
  have h2 := h.s
  have a0 := hb.n
  have a1 := dr_ix hb h1.1
  have a2 := dr_v hb h1.1
  have a3 := dr_in hb h1.1 h2.2.1
  refine ⟨by omega, by omega, a1.1, a1.2, by omega, by omega, by omega, by omega, by omega, by omega, by omega, rfl, trivial⟩
theorem lowA_eq (w : Wt) (p : Nat → Int) : ∀ i, lowA w p i = w.s0 + w.yield * tk p i - tk w.dh i
  | 0 => by simp [lowA, tk]
  | i + 1 => by
    have := lowA_eq w p i
    simp only [lowA, tk, Int.mul_add]; omega
theorem higA_eq (w : Wt) (p : Nat → Int) : ∀ i, higA w p i = w.s1 + w.yield * tk p i - tk w.dl i
  | 0 => by simp [higA, tk]
  | i + 1 => by
    have := higA_eq w p i
    simp only [higA, tk, Int.mul_add]; omega
theorem lowA_F (w : Wt) (p : Nat → Int) (i : Nat) : lowA w p (i + 1) = loF w p i := lowA_eq w p (i + 1)
theorem higA_F (w : Wt) (p : Nat → Int) (i : Nat) : higA w p (i + 1) = hiF w p i := higA_eq w p (i + 1)
theorem loK_A (w : Wt) (p : Nat → Int) (i : Nat) : loK w p i = lowA w p (i + 1) := (aLo_eq w p i).trans (lowA_F w p i).symm
theorem hiK_A (w : Wt) (p : Nat → Int) (i : Nat) : hiK w p i = higA w p (i + 1) := (aHi_eq w p i).trans (higA_F w p i).symm
theorem fb_spec (w : Wt) (p : Nat → Int) : ∀ i, fb w p i ≤ i ∧ (∀ j, j < fb w p i → okHr w p j) ∧ (fb w p i < i → ¬ okHr w p (fb w p i))
  | 0 => ⟨Nat.le_refl _, fun j hj => absurd hj (Nat.not_lt_zero j), fun h => absurd h (Nat.lt_irrefl 0)⟩
  | i + 1 => by
    obtain ⟨h1, h2, h3⟩ := fb_spec w p i
    simp only [fb]
    split
    · rename_i hl; exact ⟨by omega, h2, fun _ => h3 hl⟩
    · rename_i hl
      have e : fb w p i = i := by omega
      rw [e] at h2
      split
      · rename_i hk
        refine ⟨Nat.le_refl _, fun j hj => ?_, fun h => absurd h (Nat.lt_irrefl _)⟩
        rcases Nat.lt_succ_iff_lt_or_eq.1 hj with h' | rfl
        · exact h2 j h'
        · exact hk
      · rename_i hk; exact ⟨by omega, h2, fun _ => hk⟩
section
variable {w : Wt} {m : Nat} {p : Nat → Int} {b : Bs} (hw : watchP w) (hp : isPlanP w m p)
include hw hp
theorem hH_eq : hH w m p = fb w p m := by simp [hH, hw, hp]
theorem hE0 : hEr w m p = 0 ↔ fb w p m = m := by
  simp only [hEr, hw, hp, if_true]
  split
  · rename_i h; simp [h]
  · rename_i h; simp only [h, iff_false]; split <;> omega
theorem step_B {i : Nat} (hi : i < m) : 0 ≤ w.yield * p i ∧ w.yield * p i ≤ 1073741824000 := by
  have h1 := hw.1.2.2.2.1
  have h2 := hp.2 i hi
  have h3 := hw.1.2.1
  exact yB h1.1 h1.2 h2.1 (by omega)
theorem run_B (hb : okB b) : ∀ i, i ≤ m → lowA w p i ≤ nowA w p b i ∧ nowA w p b i ≤ higA w p i ∧ -(1073741824000 * (i : Int)) ≤ lowA w p i ∧ higA w p i ≤ 1073741824 + 1073741824000 * (i : Int)
  | 0, _ => by
    have h1 := hw.1.1.2.2.1
    have := drw_in (b := b) (Z := 0) (lo := w.s0) (hi := w.s1) ⟨hb, by omega, h1⟩
    simp only [lowA, nowA, higA]; omega
  | i + 1, h => by
    have ih := run_B hb i (by omega)
    have h1 := hp.1
    have h2 := hw.1.1.2.2.2
    have hd := hw.2 i (by omega)
    have := drw_in (b := b) (Z := i + 1) (lo := w.dl i) (hi := w.dh i) ⟨hb, by omega, hd⟩
    have := step_B hw hp (i := i) (by omega)
    obtain ⟨d1, d2, d3⟩ := hd
    simp only [lowA, nowA, higA]; omega
end
theorem true_true (w : Wt) (m : Nat) (p : Nat → Int) (b : Bs) (hb : b.n = 0 ∨ okB b) : trueG w m p b := by
  rw [trueG_vc]
  simp only [and_true, true_and, Nat.zero_lt_one, implies_true, Int.toNat_natCast, imp_false, Classical.not_not, Bool.false_eq_true, Lg.prI, and_self]
  intro hg hm30 hbn
  have hB : okB b := by
    rcases hb with h | h
    · omega
    · exact h
  have bad1 : ¬ watchP w → hEr w m p = 1 ∧ hH w m p = 0 ∧ hN w m p = 0 := fun h => by
    obtain ⟨a, b, c⟩ := h_bad (m := m) (p := p) h; exact ⟨c.symm, b.symm, a.symm⟩
  have bad2 : watchP w → ¬ isPlanP w m p → hEr w m p = 2 ∧ hH w m p = 0 ∧ hN w m p = 0 := fun h h2 => by
    obtain ⟨a, b, c⟩ := h_range (m := m) (p := p) h h2; exact ⟨c.symm, b.symm, a.symm⟩
  have good : watchP w → isPlanP w m p → ¬ hEr w m p = 1 ∧ ¬ hEr w m p = 2 := fun h h2 => by
    simp only [hEr, h, h2, if_true]; split
    · omega
    · split <;> omega
  refine ⟨by omega, fun e1 => ?_, fun e1 => ⟨fun e2 => ?_, fun e2 => ?_⟩⟩
  · have hw : ¬ watchP w := fun h => by
      by_cases h2 : isPlanP w m p
      · exact (good h h2).1 e1
      · have := (bad2 h h2).1; omega
    have := bad1 hw
    exact ⟨fun _ => ⟨fun _ => ⟨fun _ => hw, fun _ => e1⟩, this.2.1⟩, by omega⟩
  · have hw : watchP w := Classical.byContradiction fun h => e1 (bad1 h).1
    have h2 : ¬ isPlanP w m p := fun h2 => (good hw h2).2 e2
    have := bad2 hw h2
    exact ⟨fun _ => ⟨fun _ => ⟨fun h => absurd h e1, fun h => absurd hw h⟩, this.2.1⟩, by omega⟩
  have hw : watchP w := Classical.byContradiction fun h => e1 (bad1 h).1
  have hp : isPlanP w m p := Classical.byContradiction fun h => e2 (bad2 hw h).1
  obtain ⟨f1, f2, f3⟩ := fb_spec w p m
  have eH := hH_eq hw hp
  have eE := hE0 hw hp
  have hn := hw.1.1.2.2.2
  have hpm := hp.1
  refine ⟨hw, fun _ => ⟨by omega, hp, fun _ => ⟨by omega, fun _ => ⟨by omega, fun _ => ⟨by rw [eE, eH]; omega, fun _ => ⟨⟨hB, by omega, hw.1.1.2.2.1⟩, ⟨0, ⟨by omega, hw, hp, hB, by omega⟩, rfl, rfl, rfl, rfl⟩, fun z hz hlt => ?_⟩⟩⟩⟩⟩⟩
  have hzm : z < m := by omega
  have R0 := run_B hw hp hB z (by omega)
  have R1 := run_B hw hp hB (z + 1) (by omega)
  have S := step_B hw hp hzm
  have hd := hw.2 z (by omega)
  have oP : okP b ((z : Int) + 1) (w.dl z) (w.dh z) := ⟨hB, by omega, hd⟩
  have D := drw_in oP
  have eL : lowA w p z + w.yield * p z - w.dh z = lowA w p (z + 1) := rfl
  have eU : higA w p z + w.yield * p z - w.dl z = higA w p (z + 1) := rfl
  have eN : nowA w p b z + w.yield * p z - drw b (z + 1) (w.dl z) (w.dh z) = nowA w p b (z + 1) := rfl
  rw [eL, eU, eN]
  obtain ⟨d1, d2, d3⟩ := hd
  have hzh := hz.hh
  rw [eH] at hzh
  refine ⟨by omega, hlt, by omega, by omega, by omega, by omega, by omega, oP, by omega, by omega, by omega, by omega, by omega, by omega, by omega, by omega, by omega, fun ez => ?_, fun ez => ?_⟩
  · rw [eH] at ez
    have ez : z = fb w p m := by omega
    have hno := f3 (by omega)
    rw [← ez] at hno
    have ne : ¬ fb w p m = m := by omega
    have hN0 : hN w m p = 0 := by simp [hN, ne]
    have hEv : hEr w m p = if loF w p (fb w p m) < w.least then 10 else 9 := by simp [hEr, hw, hp, ne]
    rw [← ez, ← lowA_F] at hEv
    have hno : ¬ (¬ lowA w p (z + 1) < w.least ∧ ¬ w.full < higA w p (z + 1)) := by rw [lowA_F, higA_F]; exact hno
    by_cases hl : lowA w p (z + 1) < w.least
    · rw [if_pos hl] at hEv
      exact ⟨fun _ => ⟨fun _ h => absurd hl h, fun h => absurd hEv h⟩, by omega⟩
    · rw [if_neg hl] at hEv
      exact ⟨fun _ => ⟨fun h => by omega, fun _ => ⟨fun _ => ⟨fun _ => by omega, by omega⟩, hEv⟩⟩, by omega⟩
  · rw [eH] at ez
    have hlt' : z < fb w p m := by omega
    obtain ⟨g1, g2⟩ := f2 z hlt'
    rw [← lowA_F] at g1
    rw [← higA_F] at g2
    have nxt : invT w m p b (z + 1) := ⟨by omega, hw, hp, hB, by omega⟩
    refine ⟨g1, fun _ => ⟨g2, fun _ => ⟨by omega, fun _ => ⟨by omega, fun _ => ⟨fun e0 => ?_, fun _ => ⟨by omega, z + 1, nxt, by omega, rfl, rfl, rfl, rfl⟩⟩⟩⟩⟩⟩
    have ef := eE.1 e0
    have hNm : hN w m p = m := by simp [hN, hw, hp, ef]
    exact ⟨by omega, fun _ => ⟨by omega, by omega, ⟨loK_A w p z, hiK_A w p z⟩, fun _ => ⟨by omega, z + 1, nxt, by omega, rfl, rfl, rfl, rfl⟩⟩⟩
end Go.Proofs.Ytoeolgeidpjgbaa
