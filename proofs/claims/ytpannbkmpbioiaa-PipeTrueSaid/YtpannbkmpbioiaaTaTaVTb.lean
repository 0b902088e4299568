import Derived.Test.YtpannbkmpbioiaaRh
set_option linter.unusedVariables false
namespace Go.Proofs.Ytpannbkmpbioiaa
open Go Go.Lg
attribute [local irreducible] bodyH
structure Bs where
  n : Nat
  v : Nat → Int
def Bs.sv (b : Bs) : SV := .lst 1 b.n fun k => .int .u32 (b.v k)
def yOf (x : SV) : Bs := ⟨lenV x, fun k => prI (eltV x k)⟩
structure okB (b : Bs) : Prop where
  n : 1 ≤ b.n
  v : ∀ k, k < b.n → 0 ≤ b.v k ∧ b.v k < 4294967296
def drw (b : Bs) (z : Int) (lo hi : Int) : Int := lo + (b.v (z.tmod b.n).toNat).tmod (hi - lo + 1)
def zc (m : Mn) : Nat → Nat
  | 0 => 0
  | k + 1 => zc m k + (if m.va k = 2 then 1 else 0)
def opnP (m : Mn) (b : Bs) (k : Nat) : Prop := m.va k = 0 ∨ (m.va k = 2 ∧ drw b (zc m k + 1) 0 1 = 1)
open Classical in
noncomputable def opT (m : Mn) (b : Bs) : Nat → Nat
  | 0 => 0
  | k + 1 => opT m b k + (if opnP m b k then pw k else 0)
def dT (w : Nw) (b : Bs) (i : Nat) : Int := drw b (zc w.m w.m.n + i + 1) (w.j.nl i) (w.j.nh i)
def sT (w : Nw) (b : Bs) : Int := drw b (zc w.m w.m.n + w.j.n + 1) w.s0 w.s1
structure okT (w : Nw) (b : Bs) : Prop where
  w : okNet w
  b : okB b
def truC : Ctr := ⟨24, fun args k => match args with
  | [x, y] => x = (wOf x).sv ∧ y = (yOf y).sv ∧ okT (wOf x) (yOf y) ∧ k (.tup [i6 (opT (wOf x).m (yOf y) (wOf x).m.n : Nat), dV (wOf x).j.n (dT (wOf x) (yOf y)), i6 (sT (wOf x) (yOf y))])
  | _ => False⟩
noncomputable def truX : CX := inl Try.prog (ctrs []) none (ictrs []) 49 noL noL noX
noncomputable def truG (w : Nw) (b : Bs) : Prop := funH Try.prog (ctrs [spnC]) truX (ictrs [])
  (twoL 0 (natH (fun k => k ≤ w.m.n) (fun k => w.m.n - k) 3 (fun k => mkF 73 [(2, .ptr 0 0 0), (3, .ptr 1 0 0), (8, .ptr 2 0 0), (9, .clo (.func 49) [] [.ptr 2 0 0, .ptr 1 0 0]), (7, i6 (opT w.m b k : Nat)), (10, i6 (pw k : Nat)), (11, i6 k)])
      (fun k => mkX [vr 4 w.sv, vr 1 b.sv, vr 1 (i6 (zc w.m k : Nat))]) fun _ => none)
  (oneL 2 (appH1 73 12 (fun i => i ≤ w.j.n) (fun i => w.j.n - i) (w.j.n + 1) 3 (fun i => mkF 73 [(2, .ptr 0 0 0), (3, .ptr 1 0 0), (8, .ptr 2 0 0), (9, .clo (.func 49) [] [.ptr 2 0 0, .ptr 1 0 0]), (7, i6 (opT w.m b w.m.n : Nat)), (12, .sl 3 0 i), (13, i6 i)])
      fun i => mkX [vr 4 w.sv, vr 1 b.sv, vr 1 (i6 ((zc w.m w.m.n : Nat) + (i : Nat))), rw' 1 i fun q => i6 (dT w b q)]))) noL
  24 [w.sv, b.sv] (.tup [i6 (opT w.m b w.m.n : Nat), dV w.j.n (dT w b), i6 (sT w b)])
end Go.Proofs.Ytpannbkmpbioiaa

set_option linter.unusedVariables false
set_option maxRecDepth 100000
namespace Go.Proofs.Ytpannbkmpbioiaa
open Go Go.Lg
theorem truG_vc (w : Nw) (b : Bs) : truG w b = ((∃ (z : Nat), z ≤ w.m.1 ∧ (0 : Nat) = (0 : Nat) ∧ (0 : Nat) = (0 : Nat) ∧ (0 : Nat) = (0 : Nat) ∧ (0 : Nat) = (0 : Nat) ∧ (0 : Int) = (↑(opT w.m b z) : Int) ∧ (0 : Nat) = (0 : Nat) ∧ (0 : Nat) = (0 : Nat) ∧ Fn.func (49 : Nat) = Fn.func (49 : FuncId) ∧ (0 : Nat) = (0 : Nat) ∧ (0 : Nat) = (0 : Nat) ∧ (0 : Nat) = (0 : Nat) ∧ (0 : Nat) = (0 : Nat) ∧ (1 : Int) = (↑(pw z) : Int) ∧ (0 : Int) = (↑z : Int) ∧ w.1 = w.1 ∧ w.2 = w.2 ∧ w.j.1 = w.j.1 ∧ (∀ (i : Nat), i < w.j.1 → (SV.agg [i6 (w.j.nl i), i6 (w.j.nh i), i6 (w.j.le i), i6 (w.j.mo i), i6 (w.j.go i)]).den = (SV.agg [i6 (w.j.nl i), i6 (w.j.nh i), i6 (w.j.le i), i6 (w.j.mo i), i6 (w.j.go i)]).den ∧ True ∧ True ∧ True ∧ True ∧ True ∧ True) ∧ w.m.1 = w.m.1 ∧ (∀ (i : Nat), i < w.m.1 → (SV.agg [i6 (w.m.fr i), i6 (w.m.dr i), i6 (w.m.va i), i6 (w.m.co i)]).den = (SV.agg [i6 (w.m.fr i), i6 (w.m.dr i), i6 (w.m.va i), i6 (w.m.co i)]).den ∧ True ∧ True ∧ True ∧ True ∧ True) ∧ b.1 = b.1 ∧ (∀ (i : Nat), i < b.1 → (SV.int IntKind.u32 (b.v i)).den = (SV.int IntKind.u32 (b.v i)).den ∧ True) ∧ (0 : Int) = (↑(zc w.m z) : Int) ∧ True) ∧ ∀ (z : Nat), z ≤ w.m.1 → (0 : Nat) < (1 : Nat) ∧ ((↑z : Int) < (↑w.m.1 : Int) → (0 : Nat) < (1 : Nat) ∧ (0 : Int) ≤ (↑z : Int) ∧ (↑z : Int) < (↑w.m.1 : Int) ∧ (w.m.4 (↑z : Int).toNat = (0 : Int) → ((-9223372036854775808 : Int) ≤ (↑(opT w.m b z) : Int) + (↑(pw z) : Int) ∧ (↑(opT w.m b z) : Int) + (↑(pw z) : Int) ≤ (9223372036854775807 : Int)) ∧ ((-9223372036854775808 : Int) ≤ (2 : Int) * (↑(pw z) : Int) ∧ (2 : Int) * (↑(pw z) : Int) ≤ (9223372036854775807 : Int)) ∧ ((-9223372036854775808 : Int) ≤ (↑z : Int) + (1 : Int) ∧ (↑z : Int) + (1 : Int) ≤ (9223372036854775807 : Int)) ∧ ∃ (z_1 : Nat), z_1 ≤ w.m.1 ∧ w.m.1 - z_1 < w.m.1 - z ∧ (0 : Nat) = (0 : Nat) ∧
 (0 : Nat) = (0 : Nat) ∧ (0 : Nat) = (0 : Nat) ∧ (0 : Nat) = (0 : Nat) ∧ (↑(opT w.m b z) : Int) + (↑(pw z) : Int) = (↑(opT w.m b z_1) : Int) ∧ (0 : Nat) = (0 : Nat) ∧ (0 : Nat) = (0 : Nat) ∧ Fn.func (49 : FuncId) = Fn.func (49 : FuncId) ∧ (0 : Nat) = (0 : Nat) ∧ (0 : Nat) = (0 : Nat) ∧ (0 : Nat) = (0 : Nat) ∧ (0 : Nat) = (0 : Nat) ∧ (2 : Int) * (↑(pw z) : Int) = (↑(pw z_1) : Int) ∧ (↑z : Int) + (1 : Int) = (↑z_1 : Int) ∧ w.1 = w.1 ∧ w.2 = w.2 ∧ w.j.1 = w.j.1 ∧ (∀ (i : Nat), i < w.j.1 → (SV.agg [i6 (w.j.nl i), i6 (w.j.nh i), i6 (w.j.le i), i6 (w.j.mo i), i6 (w.j.go i)]).den = (SV.agg [i6 (w.j.nl i), i6 (w.j.nh i), i6 (w.j.le i), i6 (w.j.mo i), i6 (w.j.go i)]).den ∧ True ∧ True ∧ True ∧ True ∧ True ∧ True) ∧ w.m.1 = w.m.1 ∧ (∀ (i : Nat), i < w.m.1 → (SV.agg [i6 (w.m.fr i), i6 (w.m.dr i), i6 (w.m.va i), i6 (w.m.co i)]).den = (SV.agg [i6 (w.m.fr i), i6 (w.m.dr i), i6 (w.m.va i), i6 (w.m.co i)]).den ∧ True ∧ True ∧ True ∧ True ∧ True) ∧ b.1 = b.1 ∧ (∀ (i : Nat), i < b.1 → (SV.int IntKind.u32 (b.v i)).den = (SV.int IntKind.u32 (b.v i)).den ∧ True) ∧ (↑(zc w.m z) : Int) = (↑(zc w.m z_1) : Int) ∧ True) ∧ (¬w.m.4 (↑z : Int).toNat = (0 : Int) → (0 : Nat) < (1 : Nat) ∧ (0 : Int) ≤ (↑z : Int) ∧ (↑z : Int) < (↑w.m.1 : Int) ∧ (w.m.4 (↑z : Int).toNat = (2 : Int) → (0 : Nat) < (1 : Nat) ∧ ((-9223372036854775808 : Int) ≤ (↑(zc w.m z) : Int) + (1 : Int) ∧ (↑(zc w.m z) : Int) + (1 : Int) ≤ (9223372036854775807 : Int)) ∧ (0 : Nat) < (1 : Nat) ∧ (0 : Nat) < (1 : Nat) ∧ (0 : Nat) < (1 : Nat) ∧ (0 : Nat) < (1 : Nat) ∧ ((↑b.1 : Int) = (0 : Int) → False) ∧ (0 : Int) ≤ ((↑(zc w.m z) : Int) + (1 : Int)).tmod (↑b.1 : Int) ∧ ((↑(zc w.m z) : Int) + (1 : Int)).tmod (↑b.1 : Int) < (↑b.1 : Int) ∧ ((-9223372036854775808 : Int) ≤ b.2 (((↑(zc w.m z) : Int) + (1 : Int)).tmod (↑b.n : Int)).toNat ∧
 b.2 (((↑(zc w.m z) : Int) + (1 : Int)).tmod (↑b.n : Int)).toNat ≤ (9223372036854775807 : Int)) ∧ (0 : Nat) < (1 : Nat) ∧ (0 : Nat) < (1 : Nat) ∧ ((-9223372036854775808 : Int) ≤ (1 : Int) - (0 : Int) ∧ (1 : Int) - (0 : Int) ≤ (9223372036854775807 : Int)) ∧ ((-9223372036854775808 : Int) ≤ (1 : Int) - (0 : Int) + (1 : Int) ∧ (1 : Int) - (0 : Int) + (1 : Int) ≤ (9223372036854775807 : Int)) ∧ ((1 : Int) - (0 : Int) + (1 : Int) = (0 : Int) → False) ∧ ((-9223372036854775808 : Int) ≤ (0 : Int) + (b.2 (((↑(zc w.m z) : Int) + (1 : Int)).tmod (↑b.n : Int)).toNat).tmod ((1 : Int) - (0 : Int) + (1 : Int)) ∧ (0 : Int) + (b.2 (((↑(zc w.m z) : Int) + (1 : Int)).tmod (↑b.n : Int)).toNat).tmod ((1 : Int) - (0 : Int) + (1 : Int)) ≤ (9223372036854775807 : Int)) ∧ ((0 : Int) + (b.2 (((↑(zc w.m z) : Int) + (1 : Int)).tmod (↑b.n : Int)).toNat).tmod ((1 : Int) - (0 : Int) + (1 : Int)) = (1 : Int) → ((-9223372036854775808 : Int) ≤ (↑(opT w.m b z) : Int) + (↑(pw z) : Int) ∧ (↑(opT w.m b z) : Int) + (↑(pw z) : Int) ≤ (9223372036854775807 : Int)) ∧ ((-9223372036854775808 : Int) ≤ (2 : Int) * (↑(pw z) : Int) ∧ (2 : Int) * (↑(pw z) : Int) ≤ (9223372036854775807 : Int)) ∧ ((-9223372036854775808 : Int) ≤ (↑z : Int) + (1 : Int) ∧ (↑z : Int) + (1 : Int) ≤ (9223372036854775807 : Int)) ∧ ∃ (z_1 : Nat), z_1 ≤ w.m.1 ∧ w.m.1 - z_1 < w.m.1 - z ∧ (0 : Nat) = (0 : Nat) ∧ (0 : Nat) = (0 : Nat) ∧ (0 : Nat) = (0 : Nat) ∧ (0 : Nat) = (0 : Nat) ∧ (↑(opT w.m b z) : Int) + (↑(pw z) : Int) = (↑(opT w.m b z_1) : Int) ∧ (0 : Nat) = (0 : Nat) ∧ (0 : Nat) = (0 : Nat) ∧ Fn.func (49 : FuncId) = Fn.func (49 : FuncId) ∧ (0 : Nat) = (0 : Nat) ∧ (0 : Nat) = (0 : Nat) ∧ (0 : Nat) = (0 : Nat) ∧ (0 : Nat) = (0 : Nat) ∧ (2 : Int) * (↑(pw z) : Int) = (↑(pw z_1) : Int) ∧ (↑z : Int) + (1 : Int) = (↑z_1 : Int) ∧ w.1 = w.1 ∧ w.2 =
 w.2 ∧ w.j.1 = w.j.1 ∧ (∀ (i : Nat), i < w.j.1 → (SV.agg [i6 (w.j.nl i), i6 (w.j.nh i), i6 (w.j.le i), i6 (w.j.mo i), i6 (w.j.go i)]).den = (SV.agg [i6 (w.j.nl i), i6 (w.j.nh i), i6 (w.j.le i), i6 (w.j.mo i), i6 (w.j.go i)]).den ∧ True ∧ True ∧ True ∧ True ∧ True ∧ True) ∧ w.m.1 = w.m.1 ∧ (∀ (i : Nat), i < w.m.1 → (SV.agg [i6 (w.m.fr i), i6 (w.m.dr i), i6 (w.m.va i), i6 (w.m.co i)]).den = (SV.agg [i6 (w.m.fr i), i6 (w.m.dr i), i6 (w.m.va i), i6 (w.m.co i)]).den ∧ True ∧ True ∧ True ∧ True ∧ True) ∧ b.1 = b.1 ∧ (∀ (i : Nat), i < b.1 → (SV.int IntKind.u32 (b.v i)).den = (SV.int IntKind.u32 (b.v i)).den ∧ True) ∧ (↑(zc w.m z) : Int) + (1 : Int) = (↑(zc w.m z_1) : Int) ∧ True) ∧ (¬(0 : Int) + (b.2 (((↑(zc w.m z) : Int) + (1 : Int)).tmod (↑b.n : Int)).toNat).tmod ((1 : Int) - (0 : Int) + (1 : Int)) = (1 : Int) → ((-9223372036854775808 : Int) ≤ (2 : Int) * (↑(pw z) : Int) ∧ (2 : Int) * (↑(pw z) : Int) ≤ (9223372036854775807 : Int)) ∧ ((-9223372036854775808 : Int) ≤ (↑z : Int) + (1 : Int) ∧ (↑z : Int) + (1 : Int) ≤ (9223372036854775807 : Int)) ∧ ∃ (z_1 : Nat), z_1 ≤ w.m.1 ∧ w.m.1 - z_1 < w.m.1 - z ∧ (0 : Nat) = (0 : Nat) ∧ (0 : Nat) = (0 : Nat) ∧ (0 : Nat) = (0 : Nat) ∧ (0 : Nat) = (0 : Nat) ∧ (↑(opT w.m b z) : Int) = (↑(opT w.m b z_1) : Int) ∧ (0 : Nat) = (0 : Nat) ∧ (0 : Nat) = (0 : Nat) ∧ Fn.func (49 : FuncId) = Fn.func (49 : FuncId) ∧ (0 : Nat) = (0 : Nat) ∧ (0 : Nat) = (0 : Nat) ∧ (0 : Nat) = (0 : Nat) ∧ (0 : Nat) = (0 : Nat) ∧ (2 : Int) * (↑(pw z) : Int) = (↑(pw z_1) : Int) ∧ (↑z : Int) + (1 : Int) = (↑z_1 : Int) ∧ w.1 = w.1 ∧ w.2 = w.2 ∧ w.j.1 = w.j.1 ∧ (∀ (i : Nat), i < w.j.1 → (SV.agg [i6 (w.j.nl i), i6 (w.j.nh i), i6 (w.j.le i), i6 (w.j.mo i), i6 (w.j.go i)]).den = (SV.agg [i6 (w.j.nl i), i6 (w.j.nh i), i6 (w.j.le i), i6 (w.j.mo i), i6 (w.j.go i)]).den ∧ True ∧
 True ∧ True ∧ True ∧ True ∧ True) ∧ w.m.1 = w.m.1 ∧ (∀ (i : Nat), i < w.m.1 → (SV.agg [i6 (w.m.fr i), i6 (w.m.dr i), i6 (w.m.va i), i6 (w.m.co i)]).den = (SV.agg [i6 (w.m.fr i), i6 (w.m.dr i), i6 (w.m.va i), i6 (w.m.co i)]).den ∧ True ∧ True ∧ True ∧ True ∧ True) ∧ b.1 = b.1 ∧ (∀ (i : Nat), i < b.1 → (SV.int IntKind.u32 (b.v i)).den = (SV.int IntKind.u32 (b.v i)).den ∧ True) ∧ (↑(zc w.m z) : Int) + (1 : Int) = (↑(zc w.m z_1) : Int) ∧ True)) ∧ (¬w.m.4 (↑z : Int).toNat = (2 : Int) → ((-9223372036854775808 : Int) ≤ (2 : Int) * (↑(pw z) : Int) ∧ (2 : Int) * (↑(pw z) : Int) ≤ (9223372036854775807 : Int)) ∧ ((-9223372036854775808 : Int) ≤ (↑z : Int) + (1 : Int) ∧ (↑z : Int) + (1 : Int) ≤ (9223372036854775807 : Int)) ∧ ∃ (z_1 : Nat), z_1 ≤ w.m.1 ∧ w.m.1 - z_1 < w.m.1 - z ∧ (0 : Nat) = (0 : Nat) ∧ (0 : Nat) = (0 : Nat) ∧ (0 : Nat) = (0 : Nat) ∧ (0 : Nat) = (0 : Nat) ∧ (↑(opT w.m b z) : Int) = (↑(opT w.m b z_1) : Int) ∧ (0 : Nat) = (0 : Nat) ∧ (0 : Nat) = (0 : Nat) ∧ Fn.func (49 : FuncId) = Fn.func (49 : FuncId) ∧ (0 : Nat) = (0 : Nat) ∧ (0 : Nat) = (0 : Nat) ∧ (0 : Nat) = (0 : Nat) ∧ (0 : Nat) = (0 : Nat) ∧ (2 : Int) * (↑(pw z) : Int) = (↑(pw z_1) : Int) ∧ (↑z : Int) + (1 : Int) = (↑z_1 : Int) ∧ w.1 = w.1 ∧ w.2 = w.2 ∧ w.j.1 = w.j.1 ∧ (∀ (i : Nat), i < w.j.1 → (SV.agg [i6 (w.j.nl i), i6 (w.j.nh i), i6 (w.j.le i), i6 (w.j.mo i), i6 (w.j.go i)]).den = (SV.agg [i6 (w.j.nl i), i6 (w.j.nh i), i6 (w.j.le i), i6 (w.j.mo i), i6 (w.j.go i)]).den ∧ True ∧ True ∧ True ∧ True ∧ True ∧ True) ∧ w.m.1 = w.m.1 ∧ (∀ (i : Nat), i < w.m.1 → (SV.agg [i6 (w.m.fr i), i6 (w.m.dr i), i6 (w.m.va i), i6 (w.m.co i)]).den = (SV.agg [i6 (w.m.fr i), i6 (w.m.dr i), i6 (w.m.va i), i6 (w.m.co i)]).den ∧ True ∧ True ∧ True ∧ True ∧ True) ∧ b.1 = b.1 ∧ (∀ (i : Nat), i < b.1 → (SV.int IntKind.u32 (b.v i)).den =
 (SV.int IntKind.u32 (b.v i)).den ∧ True) ∧ (↑(zc w.m z) : Int) = (↑(zc w.m z_1) : Int) ∧ True))) ∧ (¬(↑z : Int) < (↑w.m.1 : Int) → ((0 : Nat) < (1 : Nat) ∧ ((0 : Int) < (↑w.j.1 : Int) → (0 : Nat) < (1 : Nat) ∧ (0 : Int) ≤ (0 : Int) ∧ (0 : Int) < (↑w.j.1 : Int) ∧ (0 : Nat) < (1 : Nat) ∧ ((-9223372036854775808 : Int) ≤ (↑(zc w.m z) : Int) + (1 : Int) ∧ (↑(zc w.m z) : Int) + (1 : Int) ≤ (9223372036854775807 : Int)) ∧ (0 : Nat) < (1 : Nat) ∧ (0 : Nat) < (1 : Nat) ∧ (0 : Nat) < (1 : Nat) ∧ (0 : Nat) < (1 : Nat) ∧ ((↑b.1 : Int) = (0 : Int) → False) ∧ (0 : Int) ≤ ((↑(zc w.m z) : Int) + (1 : Int)).tmod (↑b.1 : Int) ∧ ((↑(zc w.m z) : Int) + (1 : Int)).tmod (↑b.1 : Int) < (↑b.1 : Int) ∧ ((-9223372036854775808 : Int) ≤ b.2 (((↑(zc w.m z) : Int) + (1 : Int)).tmod (↑b.n : Int)).toNat ∧ b.2 (((↑(zc w.m z) : Int) + (1 : Int)).tmod (↑b.n : Int)).toNat ≤ (9223372036854775807 : Int)) ∧ (0 : Nat) < (1 : Nat) ∧ (0 : Nat) < (1 : Nat) ∧ ((-9223372036854775808 : Int) ≤ w.j.3 (Int.toNat (0 : Int)) - w.j.2 (Int.toNat (0 : Int)) ∧ w.j.3 (Int.toNat (0 : Int)) - w.j.2 (Int.toNat (0 : Int)) ≤ (9223372036854775807 : Int)) ∧ ((-9223372036854775808 : Int) ≤ w.j.3 (Int.toNat (0 : Int)) - w.j.2 (Int.toNat (0 : Int)) + (1 : Int) ∧ w.j.3 (Int.toNat (0 : Int)) - w.j.2 (Int.toNat (0 : Int)) + (1 : Int) ≤ (9223372036854775807 : Int)) ∧ (w.j.3 (Int.toNat (0 : Int)) - w.j.2 (Int.toNat (0 : Int)) + (1 : Int) = (0 : Int) → False) ∧ ((-9223372036854775808 : Int) ≤ w.j.2 (Int.toNat (0 : Int)) + (b.2 (((↑(zc w.m z) : Int) + (1 : Int)).tmod (↑b.n : Int)).toNat).tmod (w.j.3 (Int.toNat (0 : Int)) - w.j.2 (Int.toNat (0 : Int)) + (1 : Int)) ∧ w.j.2 (Int.toNat (0 : Int)) + (b.2 (((↑(zc w.m z) : Int) + (1 : Int)).tmod (↑b.n : Int)).toNat).tmod (w.j.3 (Int.toNat (0 : Int)) - w.j.2 (Int.toNat (0 : Int)) + (1 : Int)) ≤
 (9223372036854775807 : Int)) ∧ True ∧ (∀ (i : Nat), i < (1 : Nat) → true = true) ∧ (1 : Nat) * (8 : Nat) ≤ (140737488355328 : Nat) ∧ (1 : Nat) ≤ (4611686018427387904 : Nat) ∧ ((-9223372036854775808 : Int) ≤ (0 : Int) + (1 : Int) ∧ (0 : Int) + (1 : Int) ≤ (9223372036854775807 : Int)) ∧ ∃ (z_1 : Nat), z_1 ≤ w.j.1 ∧ w.j.1 - z_1 < w.j.1 + (1 : Nat) ∧ (0 : Nat) = (0 : Nat) ∧ (0 : Nat) = (0 : Nat) ∧ (0 : Nat) = (0 : Nat) ∧ (0 : Nat) = (0 : Nat) ∧ (↑(opT w.m b z) : Int) = (↑(opT w.m b w.m.1) : Int) ∧ (0 : Nat) = (0 : Nat) ∧ (0 : Nat) = (0 : Nat) ∧ Fn.func (49 : FuncId) = Fn.func (49 : FuncId) ∧ (0 : Nat) = (0 : Nat) ∧ (0 : Nat) = (0 : Nat) ∧ (0 : Nat) = (0 : Nat) ∧ (0 : Nat) = (0 : Nat) ∧ (0 : Nat) = (0 : Nat) ∧ (1 : Nat) = z_1 ∧ (0 : Int) + (1 : Int) = (↑z_1 : Int) ∧ w.1 = w.1 ∧ w.2 = w.2 ∧ w.j.1 = w.j.1 ∧ (∀ (i : Nat), i < w.j.1 → (SV.agg [i6 (w.j.nl i), i6 (w.j.nh i), i6 (w.j.le i), i6 (w.j.mo i), i6 (w.j.go i)]).den = (SV.agg [i6 (w.j.nl i), i6 (w.j.nh i), i6 (w.j.le i), i6 (w.j.mo i), i6 (w.j.go i)]).den ∧ True ∧ True ∧ True ∧ True ∧ True ∧ True) ∧ w.m.1 = w.m.1 ∧ (∀ (i : Nat), i < w.m.1 → (SV.agg [i6 (w.m.fr i), i6 (w.m.dr i), i6 (w.m.va i), i6 (w.m.co i)]).den = (SV.agg [i6 (w.m.fr i), i6 (w.m.dr i), i6 (w.m.va i), i6 (w.m.co i)]).den ∧ True ∧ True ∧ True ∧ True ∧ True) ∧ b.1 = b.1 ∧ (∀ (i : Nat), i < b.1 → (SV.int IntKind.u32 (b.v i)).den = (SV.int IntKind.u32 (b.v i)).den ∧ True) ∧ (↑(zc w.m z) : Int) + (1 : Int) = (↑(zc w.m w.m.1) : Int) + (↑z_1 : Int) ∧ z_1 = (1 : Nat) ∧ (∀ (i : Nat), i < z_1 → (1 : Nat) = (1 : Nat) ∧ w.j.2 (Int.toNat (0 : Int)) + (b.2 (((↑(zc w.m z) : Int) + (1 : Int)).tmod (↑b.n : Int)).toNat).tmod (w.j.3 (Int.toNat (0 : Int)) - w.j.2 (Int.toNat (0 : Int)) + (1 : Int)) = dT w b i ∧ True) ∧ True) ∧ (¬(0 : Int) < (↑w.j.1 : Int) →
 (0 : Nat) < (1 : Nat) ∧ (0 : Nat) < (1 : Nat) ∧ ((-9223372036854775808 : Int) ≤ (↑(zc w.m z) : Int) + (1 : Int) ∧ (↑(zc w.m z) : Int) + (1 : Int) ≤ (9223372036854775807 : Int)) ∧ (0 : Nat) < (1 : Nat) ∧ (0 : Nat) < (1 : Nat) ∧ (0 : Nat) < (1 : Nat) ∧ (0 : Nat) < (1 : Nat) ∧ ((↑b.1 : Int) = (0 : Int) → False) ∧ (0 : Int) ≤ ((↑(zc w.m z) : Int) + (1 : Int)).tmod (↑b.1 : Int) ∧ ((↑(zc w.m z) : Int) + (1 : Int)).tmod (↑b.1 : Int) < (↑b.1 : Int) ∧ ((-9223372036854775808 : Int) ≤ b.2 (((↑(zc w.m z) : Int) + (1 : Int)).tmod (↑b.n : Int)).toNat ∧ b.2 (((↑(zc w.m z) : Int) + (1 : Int)).tmod (↑b.n : Int)).toNat ≤ (9223372036854775807 : Int)) ∧ (0 : Nat) < (1 : Nat) ∧ (0 : Nat) < (1 : Nat) ∧ ((-9223372036854775808 : Int) ≤ w.2 - w.1 ∧ w.2 - w.1 ≤ (9223372036854775807 : Int)) ∧ ((-9223372036854775808 : Int) ≤ w.2 - w.1 + (1 : Int) ∧ w.2 - w.1 + (1 : Int) ≤ (9223372036854775807 : Int)) ∧ (w.2 - w.1 + (1 : Int) = (0 : Int) → False) ∧ ((-9223372036854775808 : Int) ≤ w.1 + (b.2 (((↑(zc w.m z) : Int) + (1 : Int)).tmod (↑b.n : Int)).toNat).tmod (w.2 - w.1 + (1 : Int)) ∧ w.1 + (b.2 (((↑(zc w.m z) : Int) + (1 : Int)).tmod (↑b.n : Int)).toNat).tmod (w.2 - w.1 + (1 : Int)) ≤ (9223372036854775807 : Int)) ∧ (↑(opT w.m b z) : Int) = (↑(opT w.m b w.m.1) : Int) ∧ (0 : Nat) = w.j.1 ∧ w.1 + (b.2 (((↑(zc w.m z) : Int) + (1 : Int)).tmod (↑b.n : Int)).toNat).tmod (w.2 - w.1 + (1 : Int)) = sT w b ∧ True)) ∧ ∀ (z : Nat), z ≤ w.j.1 → (0 : Nat) < (1 : Nat) ∧ ((↑z : Int) < (↑w.j.1 : Int) → (0 : Nat) < (1 : Nat) ∧ (0 : Int) ≤ (↑z : Int) ∧ (↑z : Int) < (↑w.j.1 : Int) ∧ (0 : Nat) < (1 : Nat) ∧ ((-9223372036854775808 : Int) ≤ (↑(zc w.m w.m.1) : Int) + (↑z : Int) + (1 : Int) ∧ (↑(zc w.m w.m.1) : Int) + (↑z : Int) + (1 : Int) ≤ (9223372036854775807 : Int)) ∧ (0 : Nat) < (1 : Nat) ∧ (0 : Nat) < (1 : Nat) ∧
 (0 : Nat) < (1 : Nat) ∧ (0 : Nat) < (1 : Nat) ∧ ((↑b.1 : Int) = (0 : Int) → False) ∧ (0 : Int) ≤ ((↑(zc w.m w.m.1) : Int) + (↑z : Int) + (1 : Int)).tmod (↑b.1 : Int) ∧ ((↑(zc w.m w.m.1) : Int) + (↑z : Int) + (1 : Int)).tmod (↑b.1 : Int) < (↑b.1 : Int) ∧ ((-9223372036854775808 : Int) ≤ b.2 (((↑(zc w.m w.m.n) : Int) + (↑z : Int) + (1 : Int)).tmod (↑b.n : Int)).toNat ∧ b.2 (((↑(zc w.m w.m.n) : Int) + (↑z : Int) + (1 : Int)).tmod (↑b.n : Int)).toNat ≤ (9223372036854775807 : Int)) ∧ (0 : Nat) < (1 : Nat) ∧ (0 : Nat) < (1 : Nat) ∧ ((-9223372036854775808 : Int) ≤ w.j.3 (↑z : Int).toNat - w.j.2 (↑z : Int).toNat ∧ w.j.3 (↑z : Int).toNat - w.j.2 (↑z : Int).toNat ≤ (9223372036854775807 : Int)) ∧ ((-9223372036854775808 : Int) ≤ w.j.3 (↑z : Int).toNat - w.j.2 (↑z : Int).toNat + (1 : Int) ∧ w.j.3 (↑z : Int).toNat - w.j.2 (↑z : Int).toNat + (1 : Int) ≤ (9223372036854775807 : Int)) ∧ (w.j.3 (↑z : Int).toNat - w.j.2 (↑z : Int).toNat + (1 : Int) = (0 : Int) → False) ∧ ((-9223372036854775808 : Int) ≤ w.j.2 (↑z : Int).toNat + (b.2 (((↑(zc w.m w.m.n) : Int) + (↑z : Int) + (1 : Int)).tmod (↑b.n : Int)).toNat).tmod (w.j.3 (↑z : Int).toNat - w.j.2 (↑z : Int).toNat + (1 : Int)) ∧ w.j.2 (↑z : Int).toNat + (b.2 (((↑(zc w.m w.m.n) : Int) + (↑z : Int) + (1 : Int)).tmod (↑b.n : Int)).toNat).tmod (w.j.3 (↑z : Int).toNat - w.j.2 (↑z : Int).toNat + (1 : Int)) ≤ (9223372036854775807 : Int)) ∧ True ∧ (∀ (i : Nat), i < (1 : Nat) → true = true) ∧ (0 : Nat) = (0 : Nat) ∧ z = z ∧ (∀ (i : Nat), true = true) ∧ (z + (1 : Nat)) * (8 : Nat) ≤ (140737488355328 : Nat) ∧ z + (1 : Nat) ≤ (4611686018427387904 : Nat) ∧ ((-9223372036854775808 : Int) ≤ (↑z : Int) + (1 : Int) ∧ (↑z : Int) + (1 : Int) ≤ (9223372036854775807 : Int)) ∧ ∃ (z_1 : Nat), z_1 ≤ w.j.1 ∧ w.j.1 - z_1 < w.j.1 - z ∧ (0 : Nat) = (0 : Nat) ∧
 (0 : Nat) = (0 : Nat) ∧ (0 : Nat) = (0 : Nat) ∧ (0 : Nat) = (0 : Nat) ∧ (↑(opT w.m b w.m.1) : Int) = (↑(opT w.m b w.m.1) : Int) ∧ (0 : Nat) = (0 : Nat) ∧ (0 : Nat) = (0 : Nat) ∧ Fn.func (49 : FuncId) = Fn.func (49 : FuncId) ∧ (0 : Nat) = (0 : Nat) ∧ (0 : Nat) = (0 : Nat) ∧ (0 : Nat) = (0 : Nat) ∧ (0 : Nat) = (0 : Nat) ∧ (0 : Nat) = (0 : Nat) ∧ z + (1 : Nat) = z_1 ∧ (↑z : Int) + (1 : Int) = (↑z_1 : Int) ∧ w.1 = w.1 ∧ w.2 = w.2 ∧ w.j.1 = w.j.1 ∧ (∀ (i : Nat), i < w.j.1 → (SV.agg [i6 (w.j.nl i), i6 (w.j.nh i), i6 (w.j.le i), i6 (w.j.mo i), i6 (w.j.go i)]).den = (SV.agg [i6 (w.j.nl i), i6 (w.j.nh i), i6 (w.j.le i), i6 (w.j.mo i), i6 (w.j.go i)]).den ∧ True ∧ True ∧ True ∧ True ∧ True ∧ True) ∧ w.m.1 = w.m.1 ∧ (∀ (i : Nat), i < w.m.1 → (SV.agg [i6 (w.m.fr i), i6 (w.m.dr i), i6 (w.m.va i), i6 (w.m.co i)]).den = (SV.agg [i6 (w.m.fr i), i6 (w.m.dr i), i6 (w.m.va i), i6 (w.m.co i)]).den ∧ True ∧ True ∧ True ∧ True ∧ True) ∧ b.1 = b.1 ∧ (∀ (i : Nat), i < b.1 → (SV.int IntKind.u32 (b.v i)).den = (SV.int IntKind.u32 (b.v i)).den ∧ True) ∧ (↑(zc w.m w.m.1) : Int) + (↑z : Int) + (1 : Int) = (↑(zc w.m w.m.1) : Int) + (↑z_1 : Int) ∧ z_1 = z + (1 : Nat) ∧ (∀ (i : Nat), i < z_1 → (1 : Nat) = (1 : Nat) ∧ (if i < z then dT w b i else w.j.2 (↑z : Int).toNat + (b.2 (((↑(zc w.m w.m.n) : Int) + (↑z : Int) + (1 : Int)).tmod (↑b.n : Int)).toNat).tmod (w.j.3 (↑z : Int).toNat - w.j.2 (↑z : Int).toNat + (1 : Int))) = dT w b i ∧ True) ∧ True) ∧ (¬(↑z : Int) < (↑w.j.1 : Int) → (0 : Nat) < (1 : Nat) ∧ (0 : Nat) < (1 : Nat) ∧ ((-9223372036854775808 : Int) ≤ (↑(zc w.m w.m.1) : Int) + (↑z : Int) + (1 : Int) ∧ (↑(zc w.m w.m.1) : Int) + (↑z : Int) + (1 : Int) ≤ (9223372036854775807 : Int)) ∧ (0 : Nat) < (1 : Nat) ∧ (0 : Nat) < (1 : Nat) ∧ (0 : Nat) < (1 : Nat) ∧ (0 : Nat) < (1 : Nat) ∧
 ((↑b.1 : Int) = (0 : Int) → False) ∧ (0 : Int) ≤ ((↑(zc w.m w.m.1) : Int) + (↑z : Int) + (1 : Int)).tmod (↑b.1 : Int) ∧ ((↑(zc w.m w.m.1) : Int) + (↑z : Int) + (1 : Int)).tmod (↑b.1 : Int) < (↑b.1 : Int) ∧ ((-9223372036854775808 : Int) ≤ b.2 (((↑(zc w.m w.m.n) : Int) + (↑z : Int) + (1 : Int)).tmod (↑b.n : Int)).toNat ∧ b.2 (((↑(zc w.m w.m.n) : Int) + (↑z : Int) + (1 : Int)).tmod (↑b.n : Int)).toNat ≤ (9223372036854775807 : Int)) ∧ (0 : Nat) < (1 : Nat) ∧ (0 : Nat) < (1 : Nat) ∧ ((-9223372036854775808 : Int) ≤ w.2 - w.1 ∧ w.2 - w.1 ≤ (9223372036854775807 : Int)) ∧ ((-9223372036854775808 : Int) ≤ w.2 - w.1 + (1 : Int) ∧ w.2 - w.1 + (1 : Int) ≤ (9223372036854775807 : Int)) ∧ (w.2 - w.1 + (1 : Int) = (0 : Int) → False) ∧ ((-9223372036854775808 : Int) ≤ w.1 + (b.2 (((↑(zc w.m w.m.n) : Int) + (↑z : Int) + (1 : Int)).tmod (↑b.n : Int)).toNat).tmod (w.2 - w.1 + (1 : Int)) ∧ w.1 + (b.2 (((↑(zc w.m w.m.n) : Int) + (↑z : Int) + (1 : Int)).tmod (↑b.n : Int)).toNat).tmod (w.2 - w.1 + (1 : Int)) ≤ (9223372036854775807 : Int)) ∧ (↑(opT w.m b w.m.1) : Int) = (↑(opT w.m b w.m.1) : Int) ∧ z = w.j.1 ∧ (0 : Nat) + w.j.1 ≤ z ∧ (∀ (i : Nat), i < w.j.1 → (1 : Nat) = (1 : Nat) ∧ (1 : Nat) = (1 : Nat) ∧ dT w b (i + (0 : Nat)) = dT w b i ∧ True) ∧ w.1 + (b.2 (((↑(zc w.m w.m.n) : Int) + (↑z : Int) + (1 : Int)).tmod (↑b.n : Int)).toNat).tmod (w.2 - w.1 + (1 : Int)) = sT w b ∧ True))) := by kernel_rfl
end Go.Proofs.Ytpannbkmpbioiaa

set_option linter.unusedVariables false
namespace Go.Proofs.Ytpannbkmpbioiaa
open Go Go.Lg
attribute [local irreducible] bodyH
theorem zc_le (m : Mn) : ∀ k, zc m k ≤ k
  | 0 => Nat.le_refl _
  | k + 1 => by have := zc_le m k; simp only [zc]; split <;> omega
theorem pw_8 {k : Nat} (h : k ≤ 8) : 1 ≤ pw k ∧ pw k ≤ 256 := by
  unfold pw
  have : k = 0 ∨ k = 1 ∨ k = 2 ∨ k = 3 ∨ k = 4 ∨ k = 5 ∨ k = 6 ∨ k = 7 ∨ k = 8 := by omega
  rcases this with rfl | rfl | rfl | rfl | rfl | rfl | rfl | rfl | rfl <;> decide
theorem opT_lt (m : Mn) (b : Bs) : ∀ k, opT m b k < pw k
  | 0 => by simp [opT, pw]
  | k + 1 => by
    have := opT_lt m b k
    rw [pw_succ]
    simp only [opT]
    split <;> omega
theorem dr_ix {b : Bs} (hb : okB b) {Z : Int} (h0 : 0 ≤ Z) : 0 ≤ Z.tmod (b.n : Int) ∧ Z.tmod (b.n : Int) < (b.n : Int) :=
  ⟨Int.tmod_nonneg _ h0, Int.tmod_lt_of_pos _ (by have := hb.n; omega)⟩
theorem dr_v {b : Bs} (hb : okB b) {Z : Int} (h0 : 0 ≤ Z) : 0 ≤ b.v (Z.tmod (b.n : Int)).toNat ∧ b.v (Z.tmod (b.n : Int)).toNat < 4294967296 := by
  have := dr_ix hb h0
  exact hb.v _ (by omega)
theorem dr_in {b : Bs} (hb : okB b) {Z lo hi : Int} (h0 : 0 ≤ Z) (h : lo ≤ hi) : 0 ≤ (b.v (Z.tmod (b.n : Int)).toNat).tmod (hi - lo + 1) ∧ (b.v (Z.tmod (b.n : Int)).toNat).tmod (hi - lo + 1) ≤ hi - lo := by
  have h1 := dr_v hb h0
  have h2 := Int.tmod_nonneg (hi - lo + 1) h1.1
  have h3 := Int.tmod_lt_of_pos (b.v (Z.tmod (b.n : Int)).toNat) (b := hi - lo + 1) (by omega)
  omega
theorem drw_in {b : Bs} (hb : okB b) {Z lo hi : Int} (h0 : 0 ≤ Z) (h : lo ≤ hi) : lo ≤ drw b Z lo hi ∧ drw b Z lo hi ≤ hi := by
  have := dr_in hb h0 h
  unfold drw; omega
theorem drw_eq (b : Bs) (Z lo hi : Int) : drw b Z lo hi = lo + (b.v (Z.tmod (b.n : Int)).toNat).tmod (hi - lo + 1) := rfl
theorem dpk {b : Bs} (hb : okB b) {Z lo hi : Int} {R : Prop} (h0 : 0 ≤ Z) (hZ : Z ≤ 1000) (h1 : 0 ≤ lo) (h : lo ≤ hi) (h2 : hi ≤ 1099511627776) (r : R) : (-9223372036854775808 ≤ Z ∧ Z ≤ 9223372036854775807) ∧ ¬ (b.n : Int) = 0 ∧ 0 ≤ Z.tmod (b.n : Int) ∧ Z.tmod (b.n : Int) < (b.n : Int) ∧
    (-9223372036854775808 ≤ b.v (Z.tmod (b.n : Int)).toNat ∧ b.v (Z.tmod (b.n : Int)).toNat ≤ 9223372036854775807) ∧ (-9223372036854775808 ≤ hi - lo ∧ hi - lo ≤ 9223372036854775807) ∧ (-9223372036854775808 ≤ hi - lo + 1 ∧ hi - lo + 1 ≤ 9223372036854775807) ∧ ¬ hi - lo + 1 = 0 ∧
    (-9223372036854775808 ≤ lo + (b.v (Z.tmod (b.n : Int)).toNat).tmod (hi - lo + 1) ∧ lo + (b.v (Z.tmod (b.n : Int)).toNat).tmod (hi - lo + 1) ≤ 9223372036854775807) ∧ R := by
  have a1 := dr_ix hb h0
  have a2 := dr_v hb h0
  have a3 := dr_in hb h0 h
  have a4 := hb.n
  exact ⟨by omega, by omega, a1.1, a1.2, by omega, by omega, by omega, by omega, by omega, r⟩
theorem tru_true {w : Nw} {b : Bs} (h : okT w b) : truG w b := by
  rw [truG_vc]
  have hn := h.w.n
  have hs := h.w.src
  have hb := h.b
  have hzn := zc_le w.m w.m.n
  simp only [and_true, true_and, Nat.zero_lt_one, implies_true, Int.toNat_natCast, imp_false]
  refine ⟨⟨0, by omega, rfl, rfl, rfl, rfl⟩, fun z hz => ⟨fun hlt => ?_, fun hge => ⟨⟨fun _ => ?_, fun h0 => by omega⟩, fun i hi => ⟨fun hlt => ?_, fun hge => ?_⟩⟩⟩⟩
  · have hp := pw_8 (k := z) (by omega)
    have ho := opT_lt w.m b z
    have hz1 := zc_le w.m z
    have e1 : pw (z + 1) = 2 * pw z := by rw [pw_succ]
    have e2 : zc w.m (z + 1) = zc w.m z + (if w.m.va z = 2 then 1 else 0) := rfl
    refine ⟨by omega, hlt, fun hv => ?_, fun hv => ⟨by omega, hlt, fun hv2 => ?_, fun hv2 => ?_⟩⟩
    · have e3 : opT w.m b (z + 1) = opT w.m b z + pw z := by
        have : opnP w.m b z := .inl hv
        simp only [opT, this, if_true]
      have e4 : ¬ w.m.va z = 2 := by omega
      rw [if_neg e4] at e2
      exact ⟨by omega, by omega, by omega, z + 1, by omega, by omega, by omega, by omega, by omega, by omega⟩
    · rw [if_pos hv2] at e2
      refine dpk hb (by omega) (by omega) (by omega) (by omega) (by omega) ⟨fun hd => ?_, fun hd => ?_⟩
      · have e3 : opT w.m b (z + 1) = opT w.m b z + pw z := by
          have : opnP w.m b z := .inr ⟨hv2, hd⟩
          simp only [opT, this, if_true]
        exact ⟨by omega, by omega, by omega, z + 1, by omega, by omega, by omega, by omega, by omega, by omega⟩
      · have e3 : opT w.m b (z + 1) = opT w.m b z := by
          have : ¬ opnP w.m b z := fun hh => hh.elim (fun h => hv h) fun h => hd h.2
          simp only [opT, this, if_false, Nat.add_zero]
        exact ⟨by omega, by omega, z + 1, by omega, by omega, by omega, by omega, by omega, by omega⟩
    · rw [if_neg hv2] at e2
      have e3 : opT w.m b (z + 1) = opT w.m b z := by
        have : ¬ opnP w.m b z := fun hh => hh.elim (fun h => hv h) fun h => hv2 h.1
        simp only [opT, this, if_false, Nat.add_zero]
      exact ⟨by omega, by omega, z + 1, by omega, by omega, by omega, by omega, by omega, by omega⟩
  · have e : z = w.m.n := by omega
    subst e
    have hj := (h.w.js 0 (by omega)).need
    refine ⟨by omega, by omega, dpk hb (by omega) (by omega) hj.1 hj.2.1 (by have := hj.2.2; show w.j.nh 0 ≤ _; omega) ⟨by omega, by omega, by omega, 1, by omega, by omega, rfl, rfl, by omega, by omega, rfl, fun q hq => ?_⟩⟩
    have : q = 0 := by omega
    subst this
    simp only [dT, drw_eq]
    rfl
  · have hlt' : i < w.j.n := by omega
    have hj := (h.w.js i hlt').need
    refine ⟨by omega, hlt, dpk hb (by omega) (by omega) hj.1 hj.2.1 (by have := hj.2.2; omega) ⟨by omega, by omega, by omega, i + 1, by omega, by omega, rfl, by omega, by omega, rfl, fun q hq => ?_⟩⟩
    by_cases hqi : q < i
    · rw [if_pos hqi]
    · rw [if_neg hqi]
      have : q = i := by omega
      subst this
      rfl
  · have e : i = w.j.n := by omega
    subst e
    exact dpk hb (by omega) (by omega) hs.1 hs.2.1 hs.2.2 ⟨rfl, by omega, fun q hq => by simp, rfl⟩
end Go.Proofs.Ytpannbkmpbioiaa
