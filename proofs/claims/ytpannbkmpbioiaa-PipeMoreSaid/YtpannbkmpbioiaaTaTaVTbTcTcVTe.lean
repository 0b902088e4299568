import Derived.Test.YtpannbkmpbioiaaRh
import Derived.Test.YtpannbkmpbioiaaQpQqQr
set_option linter.unusedVariables false
namespace Go.Proofs.Ytpannbkmpbioiaa
open Go Go.Lg
attribute [local irreducible] bodyH
structure Bs where
  n : Nat
  v : Nat → Int
def Bs.sv (b : Bs) : SV := .lst 1 b.n fun k => .int .u32 (b.v k)
def yOf (x : SV) : Bs := ⟨lenV x, fun k => prI (eltV x k)⟩
structure okB (b : Bs) : Prop where
  n : 1 ≤ b.n
  v : ∀ k, k < b.n → 0 ≤ b.v k ∧ b.v k < 4294967296
def drw (b : Bs) (z : Int) (lo hi : Int) : Int := lo + (b.v (z.tmod b.n).toNat).tmod (hi - lo + 1)
def zc (m : Mn) : Nat → Nat
  | 0 => 0
  | k + 1 => zc m k + (if m.va k = 2 then 1 else 0)
def opnP (m : Mn) (b : Bs) (k : Nat) : Prop := m.va k = 0 ∨ (m.va k = 2 ∧ drw b (zc m k + 1) 0 1 = 1)
open Classical in
noncomputable def opT (m : Mn) (b : Bs) : Nat → Nat
  | 0 => 0
  | k + 1 => opT m b k + (if opnP m b k then pw k else 0)
def dT (w : Nw) (b : Bs) (i : Nat) : Int := drw b (zc w.m w.m.n + i + 1) (w.j.nl i) (w.j.nh i)
def sT (w : Nw) (b : Bs) : Int := drw b (zc w.m w.m.n + w.j.n + 1) w.s0 w.s1
structure okT (w : Nw) (b : Bs) : Prop where
  w : okNet w
  b : okB b
def truC : Ctr := ⟨24, fun args k => match args with
  | [x, y] => x = (wOf x).sv ∧ y = (yOf y).sv ∧ okT (wOf x) (yOf y) ∧ k (.tup [i6 (opT (wOf x).m (yOf y) (wOf x).m.n : Nat), dV (wOf x).j.n (dT (wOf x) (yOf y)), i6 (sT (wOf x) (yOf y))])
  | _ => False⟩
noncomputable def truX : CX := inl Try.prog (ctrs []) none (ictrs []) 49 noL noL noX
noncomputable def truG (w : Nw) (b : Bs) : Prop := funH Try.prog (ctrs [spnC]) truX (ictrs [])
  (twoL 0 (natH (fun k => k ≤ w.m.n) (fun k => w.m.n - k) 3 (fun k => mkF 73 [(2, .ptr 0 0 0), (3, .ptr 1 0 0), (8, .ptr 2 0 0), (9, .clo (.func 49) [] [.ptr 2 0 0, .ptr 1 0 0]), (7, i6 (opT w.m b k : Nat)), (10, i6 (pw k : Nat)), (11, i6 k)])
      (fun k => mkX [vr 4 w.sv, vr 1 b.sv, vr 1 (i6 (zc w.m k : Nat))]) fun _ => none)
  (oneL 2 (appH1 73 12 (fun i => i ≤ w.j.n) (fun i => w.j.n - i) (w.j.n + 1) 3 (fun i => mkF 73 [(2, .ptr 0 0 0), (3, .ptr 1 0 0), (8, .ptr 2 0 0), (9, .clo (.func 49) [] [.ptr 2 0 0, .ptr 1 0 0]), (7, i6 (opT w.m b w.m.n : Nat)), (12, .sl 3 0 i), (13, i6 i)])
      fun i => mkX [vr 4 w.sv, vr 1 b.sv, vr 1 (i6 ((zc w.m w.m.n : Nat) + (i : Nat))), rw' 1 i fun q => i6 (dT w b q)]))) noL
  24 [w.sv, b.sv] (.tup [i6 (opT w.m b w.m.n : Nat), dV w.j.n (dT w b), i6 (sT w b)])
end Go.Proofs.Ytpannbkmpbioiaa

set_option linter.unusedVariables false
set_option maxRecDepth 100000
namespace Go.Proofs.Ytpannbkmpbioiaa
open Go Go.Lg
end Go.Proofs.Ytpannbkmpbioiaa

set_option linter.unusedVariables false
namespace Go.Proofs.Ytpannbkmpbioiaa
open Go Go.Lg
attribute [local irreducible] bodyH
end Go.Proofs.Ytpannbkmpbioiaa

set_option linter.unusedVariables false
namespace Go.Proofs.Ytpannbkmpbioiaa
open Go Go.Lg
attribute [local irreducible] bodyH
noncomputable def csU : CSpec := ctrsF [truC] (ctrs [bigC, aliveC, FedC, PreC, FltC, vnetC 23, isC 100, atRC 100])
noncomputable def trueG (w : Nw) (b : Bs) : Prop := funH Try.prog csU noX (ictrs [])
  (oneL 0 (natH (fun j => j ≤ w.j.n ∧ okT w b) (fun j => w.j.n - j) 1 (fun j => mkF 175 [(2, .ptr 0 0 0), (8, i6 (opT w.m b w.m.n : Nat)), (9, dV w.j.n (dT w b)), (10, i6 (sT w b)), (11, i6 (FtJ w)), (13, i6 (FtE w)), (14, i6 j)])
      (fun _ => mkX [vr 4 w.sv]) fun _ => none)) noL
  5 [w.sv, b.sv] (.bool true)
end Go.Proofs.Ytpannbkmpbioiaa

set_option linter.unusedVariables false
set_option maxRecDepth 100000
namespace Go.Proofs.Ytpannbkmpbioiaa
open Go Go.Lg
end Go.Proofs.Ytpannbkmpbioiaa

set_option linter.unusedVariables false
namespace Go.Proofs.Ytpannbkmpbioiaa
open Go Go.Lg
attribute [local irreducible] bodyH
structure trF (w : Nw) (b : Bs) (z : Nat) : Prop where
  chk : chkN w z = 0
  f0 : onW w.m (opT w.m b w.m.n) z → ¬ FedV w z = 0
  f2 : ¬ onW w.m (opT w.m b w.m.n) z → ¬ FedV w z = 2
  p : PrE w z = 0 ↔ ¬ FedV w z = 0
  p4 : ¬ PrE w z = 0 → PrE w z = 4
  lo : onW w.m (opT w.m b w.m.n) z → ¬ atS w (opT w.m b w.m.n) (dT w b) (sT w b) z < PrL w z
  hi : onW w.m (opT w.m b w.m.n) z → ¬ PrH w z < atS w (opT w.m b w.m.n) (dT w b) (sT w b) z
  bad : onW w.m (opT w.m b w.m.n) z → (atS w (opT w.m b w.m.n) (dT w b) (sT w b) z < w.j.le z ∨ w.j.mo z < atS w (opT w.m b w.m.n) (dT w b) (sT w b) z) → FtE w = 0 ∧ ¬ (z : Int) < FtJ w
end Go.Proofs.Ytpannbkmpbioiaa
