import Derived.Test.YtpannbkmpbioiaaRh
import Derived.Test.YtpannbkmpbioiaaTaTaVTbTcTcVTe
set_option linter.unusedVariables false
namespace Go.Proofs.Ytpannbkmpbioiaa
open Go Go.Lg
attribute [local irreducible] bodyH
def drH (d : Int) : Int := (d + 1).tdiv 2
open Classical in
noncomputable def drM (m : Mn) (o k i : Nat) : Int := if i < k ∧ hs o i then drH (m.dr i) else m.dr i
noncomputable def mnH (m : Mn) (o k : Nat) : Mn := ⟨m.n, m.fr, drM m o k, m.va, m.co⟩
noncomputable def wW (w : Nw) (o : Nat) : Nw := ⟨w.s0, w.s1, w.j, mnH w.m o w.m.n⟩
structure okWi (w : Nw) (o : Int) : Prop where
  w : okNet w
  o : 0 ≤ o ∧ o ≤ 1099511627776
def withC : Ctr := netC 28 fun w r k => match r with
  | [.int .i64 o] => okWi w o ∧ k (wW w o.toNat).sv
  | _ => False
def jR (j : Jn) : Option SRow := rw' 5 j.n fun k => .agg [i6 (j.nl k), i6 (j.nh k), i6 (j.le k), i6 (j.mo k), i6 (j.go k)]
def mR (m : Mn) : Option SRow := rw' 4 m.n fun k => .agg [i6 (m.fr k), i6 (m.dr k), i6 (m.va k), i6 (m.co k)]
def nilV : SV := .val (.slice none 0 0)
noncomputable def natM (inv : Nat → Prop) (μ : Nat → Nat) (nr : Nat) (ms : FS → XS → Ms) (t : Nat → FS) (X : Nat → XS) : HSpec :=
  { toLSpec := { σ := Nat, inv := inv, μ := μ, nr := nr, ms := ms, t := t, X := X, rd := fun _ _ k => ∃ z, k z, rdOK := fun _ _ _ h => h } }
noncomputable def withG (w : Nw) (o : Int) : Prop := funH Try.prog (ctrs [hasC]) noX (ictrs [])
  (oneL 0 (natM (fun k => k ≤ w.m.n) (fun k => w.m.n - k) 3 (fun _ X => match X.row 2 with
      | some R => (match R.f 0 with
        | .agg [_, _, _, .sl a _ _] => [some a]
        | _ => [])
      | none => []) (fun k => mkF 37 [(1, i6 o), (2, .ptr 0 0 0), (4, .ptr 1 0 0), (5, .ptr 2 0 0), (6, i6 k)]) (fun k => mkX [vr 4 w.sv, vr 4 (.agg [i6 0, i6 0, nilV, nilV]), vr 4 (.agg [i6 w.s0, i6 w.s1, w.j.sv, .sl 3 0 w.m.n]), mR (mnH w.m o.toNat k)]))) noL
  28 [w.sv, i6 o] (wW w o.toNat).sv
end Go.Proofs.Ytpannbkmpbioiaa

set_option linter.unusedVariables false
set_option maxRecDepth 100000
namespace Go.Proofs.Ytpannbkmpbioiaa
open Go Go.Lg
theorem withG_vc (w : Nw) (o : Int) : withG w o = ((0 : Nat) < (1 : Nat) ∧ (0 : Nat) < (1 : Nat) ∧ (∀ (i : Nat), i < w.m.1 → true = true) ∧ (0 : Nat) = (0 : Nat) ∧ (0 : Nat) = (0 : Nat) ∧ (∀ (i : Nat), true = true) ∧ ((0 : Nat) + w.m.1) * (32 : Nat) ≤ (140737488355328 : Nat) ∧ (0 : Nat) + w.m.1 ≤ (4611686018427387904 : Nat) ∧ (∃ (z : Nat), z ≤ w.m.1 ∧ o = o ∧ (0 : Nat) = (0 : Nat) ∧ (0 : Nat) = (0 : Nat) ∧ (0 : Nat) = (0 : Nat) ∧ (0 : Nat) = (0 : Nat) ∧ (0 : Nat) = (0 : Nat) ∧ (0 : Nat) = (0 : Nat) ∧ (0 : Int) = (↑z : Int) ∧ w.1 = w.1 ∧ w.2 = w.2 ∧ w.j.1 = w.j.1 ∧ (∀ (i : Nat), i < w.j.1 → (SV.agg [i6 (w.j.nl i), i6 (w.j.nh i), i6 (w.j.le i), i6 (w.j.mo i), i6 (w.j.go i)]).den = (SV.agg [i6 (w.j.nl i), i6 (w.j.nh i), i6 (w.j.le i), i6 (w.j.mo i), i6 (w.j.go i)]).den ∧ True ∧ True ∧ True ∧ True ∧ True ∧ True) ∧ w.m.1 = w.m.1 ∧ (∀ (i : Nat), i < w.m.1 → (SV.agg [i6 (w.m.fr i), i6 (w.m.dr i), i6 (w.m.va i), i6 (w.m.co i)]).den = (SV.agg [i6 (w.m.fr i), i6 (w.m.dr i), i6 (w.m.va i), i6 (w.m.co i)]).den ∧ True ∧ True ∧ True ∧ True ∧ True) ∧ (0 : Int) = (0 : Int) ∧ (0 : Int) = (0 : Int) ∧ Value.slice none (0 : Nat) (0 : Nat) = Value.slice none (0 : Nat) (0 : Nat) ∧ Value.slice none (0 : Nat) (0 : Nat) = Value.slice none (0 : Nat) (0 : Nat) ∧ w.1 = w.1 ∧ w.2 = w.2 ∧ w.j.1 = w.j.1 ∧ (∀ (i : Nat), i < w.j.1 → (SV.agg [i6 (w.j.nl i), i6 (w.j.nh i), i6 (w.j.le i), i6 (w.j.mo i), i6 (w.j.go i)]).den = (SV.agg [i6 (w.j.nl i), i6 (w.j.nh i), i6 (w.j.le i), i6 (w.j.mo i), i6 (w.j.go i)]).den ∧ True ∧ True ∧ True ∧ True ∧ True ∧ True) ∧ (0 : Nat) = (0 : Nat) ∧ (0 : Nat) + w.m.1 = w.m.1 ∧ w.m.1 = (0 : Nat) + w.m.1 ∧ (∀ (i : Nat), i < w.m.1 → (4 : Nat) = (4 : Nat) ∧ (if i < (0 : Nat) then (0 : Int) else w.m.2 (i - (0 : Nat))) = w.m.2 i ∧ (if i < (0 : Nat) then (0 : Int)
 else w.m.3 (i - (0 : Nat))) = drM w.m o.toNat z i ∧ (if i < (0 : Nat) then (0 : Int) else w.m.4 (i - (0 : Nat))) = w.m.4 i ∧ (if i < (0 : Nat) then (0 : Int) else w.m.5 (i - (0 : Nat))) = w.m.5 i ∧ True) ∧ True) ∧ ∀ (z : Nat), z ≤ w.m.1 → (0 : Nat) < (1 : Nat) ∧ ((↑z : Int) < (↑w.m.1 : Int) → (((0 : Int) ≤ o ∧ o ≤ (1099511627776 : Int)) ∧ (0 : Int) ≤ (↑z : Int) ∧ (↑z : Int) ≤ (40 : Int)) ∧ (hs o.toNat (↑z : Int).toNat → (0 : Nat) < (1 : Nat) ∧ (0 : Nat) < (1 : Nat) ∧ (0 : Int) ≤ (↑z : Int) ∧ (↑z : Int) < (↑w.m.1 : Int) ∧ (0 : Nat) + (↑z : Int).toNat < w.m.1 ∧ ((-9223372036854775808 : Int) ≤ drM w.m o.toNat z ((0 : Nat) + (↑z : Int).toNat) + (1 : Int) ∧ drM w.m o.toNat z ((0 : Nat) + (↑z : Int).toNat) + (1 : Int) ≤ (9223372036854775807 : Int)) ∧ ((2 : Int) = (0 : Int) → False) ∧ ((-9223372036854775808 : Int) ≤ (drM w.m o.toNat z ((0 : Nat) + (↑z : Int).toNat) + (1 : Int)).tdiv (2 : Int) ∧ (drM w.m o.toNat z ((0 : Nat) + (↑z : Int).toNat) + (1 : Int)).tdiv (2 : Int) ≤ (9223372036854775807 : Int)) ∧ (0 : Int) ≤ (↑z : Int) ∧ (↑z : Int) < (↑w.m.1 : Int) ∧ (1 : Nat) + (1 : Nat) ≤ (4 : Nat) ∧ (0 : Nat) + (↑z : Int).toNat < w.m.1 ∧ (∀ (i' : Nat), true = true) ∧ ((-9223372036854775808 : Int) ≤ (↑z : Int) + (1 : Int) ∧ (↑z : Int) + (1 : Int) ≤ (9223372036854775807 : Int)) ∧ ∃ (z_1 : Nat), z_1 ≤ w.m.1 ∧ w.m.1 - z_1 < w.m.1 - z ∧ o = o ∧ (0 : Nat) = (0 : Nat) ∧ (0 : Nat) = (0 : Nat) ∧ (0 : Nat) = (0 : Nat) ∧ (0 : Nat) = (0 : Nat) ∧ (0 : Nat) = (0 : Nat) ∧ (0 : Nat) = (0 : Nat) ∧ (↑z : Int) + (1 : Int) = (↑z_1 : Int) ∧ w.1 = w.1 ∧ w.2 = w.2 ∧ w.j.1 = w.j.1 ∧ (∀ (i : Nat), i < w.j.1 → (SV.agg [i6 (w.j.nl i), i6 (w.j.nh i), i6 (w.j.le i), i6 (w.j.mo i), i6 (w.j.go i)]).den = (SV.agg [i6 (w.j.nl i), i6 (w.j.nh i), i6 (w.j.le i), i6 (w.j.mo i), i6 (w.j.go i)]).den ∧ True ∧ True ∧
 True ∧ True ∧ True ∧ True) ∧ w.m.1 = w.m.1 ∧ (∀ (i : Nat), i < w.m.1 → (SV.agg [i6 (w.m.fr i), i6 (w.m.dr i), i6 (w.m.va i), i6 (w.m.co i)]).den = (SV.agg [i6 (w.m.fr i), i6 (w.m.dr i), i6 (w.m.va i), i6 (w.m.co i)]).den ∧ True ∧ True ∧ True ∧ True ∧ True) ∧ (0 : Int) = (0 : Int) ∧ (0 : Int) = (0 : Int) ∧ Value.slice none (0 : Nat) (0 : Nat) = Value.slice none (0 : Nat) (0 : Nat) ∧ Value.slice none (0 : Nat) (0 : Nat) = Value.slice none (0 : Nat) (0 : Nat) ∧ w.1 = w.1 ∧ w.2 = w.2 ∧ w.j.1 = w.j.1 ∧ (∀ (i : Nat), i < w.j.1 → (SV.agg [i6 (w.j.nl i), i6 (w.j.nh i), i6 (w.j.le i), i6 (w.j.mo i), i6 (w.j.go i)]).den = (SV.agg [i6 (w.j.nl i), i6 (w.j.nh i), i6 (w.j.le i), i6 (w.j.mo i), i6 (w.j.go i)]).den ∧ True ∧ True ∧ True ∧ True ∧ True ∧ True) ∧ (0 : Nat) = (0 : Nat) ∧ w.m.1 = w.m.1 ∧ w.m.1 = w.m.1 ∧ (∀ (i : Nat), i < w.m.1 → (4 : Nat) = (4 : Nat) ∧ (if i = (0 : Nat) + (↑z : Int).toNat then w.m.2 i else w.m.2 i) = w.m.2 i ∧ (if i = (0 : Nat) + (↑z : Int).toNat then (drM w.m o.toNat z ((0 : Nat) + (↑z : Int).toNat) + (1 : Int)).tdiv (2 : Int) else drM w.m o.toNat z i) = drM w.m o.toNat z_1 i ∧ (if i = (0 : Nat) + (↑z : Int).toNat then w.m.4 i else w.m.4 i) = w.m.4 i ∧ (if i = (0 : Nat) + (↑z : Int).toNat then w.m.5 i else w.m.5 i) = w.m.5 i ∧ True) ∧ True) ∧ (¬hs o.toNat (↑z : Int).toNat → ((-9223372036854775808 : Int) ≤ (↑z : Int) + (1 : Int) ∧ (↑z : Int) + (1 : Int) ≤ (9223372036854775807 : Int)) ∧ ∃ (z_1 : Nat), z_1 ≤ w.m.1 ∧ w.m.1 - z_1 < w.m.1 - z ∧ o = o ∧ (0 : Nat) = (0 : Nat) ∧ (0 : Nat) = (0 : Nat) ∧ (0 : Nat) = (0 : Nat) ∧ (0 : Nat) = (0 : Nat) ∧ (0 : Nat) = (0 : Nat) ∧ (0 : Nat) = (0 : Nat) ∧ (↑z : Int) + (1 : Int) = (↑z_1 : Int) ∧ w.1 = w.1 ∧ w.2 = w.2 ∧ w.j.1 = w.j.1 ∧ (∀ (i : Nat), i < w.j.1 → (SV.agg [i6 (w.j.nl i), i6 (w.j.nh i),
 i6 (w.j.le i), i6 (w.j.mo i), i6 (w.j.go i)]).den = (SV.agg [i6 (w.j.nl i), i6 (w.j.nh i), i6 (w.j.le i), i6 (w.j.mo i), i6 (w.j.go i)]).den ∧ True ∧ True ∧ True ∧ True ∧ True ∧ True) ∧ w.m.1 = w.m.1 ∧ (∀ (i : Nat), i < w.m.1 → (SV.agg [i6 (w.m.fr i), i6 (w.m.dr i), i6 (w.m.va i), i6 (w.m.co i)]).den = (SV.agg [i6 (w.m.fr i), i6 (w.m.dr i), i6 (w.m.va i), i6 (w.m.co i)]).den ∧ True ∧ True ∧ True ∧ True ∧ True) ∧ (0 : Int) = (0 : Int) ∧ (0 : Int) = (0 : Int) ∧ Value.slice none (0 : Nat) (0 : Nat) = Value.slice none (0 : Nat) (0 : Nat) ∧ Value.slice none (0 : Nat) (0 : Nat) = Value.slice none (0 : Nat) (0 : Nat) ∧ w.1 = w.1 ∧ w.2 = w.2 ∧ w.j.1 = w.j.1 ∧ (∀ (i : Nat), i < w.j.1 → (SV.agg [i6 (w.j.nl i), i6 (w.j.nh i), i6 (w.j.le i), i6 (w.j.mo i), i6 (w.j.go i)]).den = (SV.agg [i6 (w.j.nl i), i6 (w.j.nh i), i6 (w.j.le i), i6 (w.j.mo i), i6 (w.j.go i)]).den ∧ True ∧ True ∧ True ∧ True ∧ True ∧ True) ∧ (0 : Nat) = (0 : Nat) ∧ w.m.1 = w.m.1 ∧ w.m.1 = w.m.1 ∧ (∀ (i : Nat), i < w.m.1 → (4 : Nat) = (4 : Nat) ∧ w.m.2 i = w.m.2 i ∧ drM w.m o.toNat z i = drM w.m o.toNat z_1 i ∧ w.m.4 i = w.m.4 i ∧ w.m.5 i = w.m.5 i ∧ True) ∧ True)) ∧ (¬(↑z : Int) < (↑w.m.1 : Int) → (0 : Nat) < (1 : Nat) ∧ (0 : Nat) < (1 : Nat) ∧ w.1 = w.1 ∧ w.2 = w.2 ∧ w.j.1 = (wW w o.toNat).j.1 ∧ (∀ (i : Nat), i < (wW w o.toNat).j.1 → (SV.agg [i6 (w.j.nl i), i6 (w.j.nh i), i6 (w.j.le i), i6 (w.j.mo i), i6 (w.j.go i)]).den = (SV.agg [i6 ((wW w o.toNat).j.nl i), i6 ((wW w o.toNat).j.nh i), i6 ((wW w o.toNat).j.le i), i6 ((wW w o.toNat).j.mo i), i6 ((wW w o.toNat).j.go i)]).den ∧ True ∧ True ∧ True ∧ True ∧ True ∧ True) ∧ w.m.1 = w.m.1 ∧ (0 : Nat) + w.m.1 ≤ w.m.1 ∧ (∀ (i : Nat), i < w.m.1 → (4 : Nat) = (4 : Nat) ∧ (4 : Nat) = (4 : Nat) ∧ w.m.2 (i + (0 : Nat)) = w.m.2 i ∧
 drM w.m o.toNat z (i + (0 : Nat)) = drM w.m o.toNat w.m.1 i ∧ w.m.4 (i + (0 : Nat)) = w.m.4 i ∧ w.m.5 (i + (0 : Nat)) = w.m.5 i ∧ True) ∧ True)) := by kernel_rfl
end Go.Proofs.Ytpannbkmpbioiaa

set_option linter.unusedVariables false
namespace Go.Proofs.Ytpannbkmpbioiaa
open Go Go.Lg
attribute [local irreducible] bodyH
structure cuP (w : Nw) (i q : Nat) : Prop where
  i : q < i
  f : fedS w.m q = 0
open Classical in
noncomputable def cuA (w : Nw) (i q : Nat) (x y : Int) : Int := if cuP w i q then x else y
noncomputable def jnC (w : Nw) (b : Int) (i : Nat) : Jn := ⟨w.j.n, fun q => cuA w i q 0 (w.j.nl q), fun q => cuA w i q b (w.j.nh q), w.j.le, w.j.mo, fun q => cuA w i q b (w.j.go q)⟩
theorem rdU (t : FS) (X : XS) (k : Unit → Prop) (h : k ()) : ∃ s, k s := ⟨(), h⟩
noncomputable def regH (nr : Nat) (ms : FS → XS → Ms) (t : FS) (X : XS) (D E : DS) (nb : Option Nat) : HSpec :=
  { toLSpec := { σ := Unit, inv := fun _ => True, μ := fun _ => 0, nr := nr, ms := ms, t := fun _ => t, X := fun _ => X, rd := fun _ _ k => k (), rdOK := rdU }, D := D, E := E, nb := nb }
noncomputable def regN (n slot nr : Nat) (inv : Nat → Prop) (t : Nat → FS) (X : Nat → XS) (D E : DS) : HSpec :=
  { toLSpec := { σ := Nat, inv := inv, μ := fun _ => 0, nr := nr, ms := fun _ _ => [], t := t, X := X, rd := fun t _ k => match sget n t slot with
      | .int _ z => k z.toNat
      | _ => False, rdOK := rdI }, D := D, E := E, par := some ⟨fun t _ k => match sget n t slot with
      | .int _ z => k z.toNat
      | _ => False, rdI⟩, kinv := fun y z => z = y }
structure okC (w : Nw) (i : Nat) : Prop where
  hw : okNet w
  hi : i < w.j.n
  hf : fedS w.m i = 0
def u8 (z : Int) : SV := .int .u8 z
def jx (w : Nw) (a : Int) : Nat := (a.tmod w.j.n).toNat
def kx (w : Nw) (a : Int) : Nat := (a.tmod w.m.n).toNat
def ndM (w : Nw) (a b : Int) (q : Nat) (x : Int) : Int := if q = jx w a then min 1000000 (x + b) else x
def drX (w : Nw) (a b : Int) (q : Nat) (x : Int) : Int := if q = kx w a then min 1000 (x + b.tmod 7) else x
def jnM (w : Nw) (a b : Int) : Jn := ⟨w.j.n, fun q => ndM w a b q (w.j.nl q), fun q => ndM w a b q (w.j.nh q), w.j.le, w.j.mo, w.j.go⟩
def mnM (w : Nw) (a b : Int) : Mn := ⟨w.m.n, w.m.fr, fun q => drX w a b q (w.m.dr q), w.m.va, w.m.co⟩
def frM (z a b : Int) (l : List (Nat × SV)) : List (Nat × SV) := (1, i6 z) :: (2, u8 a) :: (3, u8 b) :: (4, .ptr 0 0 0) :: (9, .ptr 1 0 0) :: (11, .ptr 2 0 0) :: (12, .ptr 3 0 0) :: l
noncomputable def roM (w : Nw) (p q : Int) (j : Jn) (m : Mn) (l : List (Option SRow)) : XS := mkX (vr 4 w.sv :: vr 2 (.agg [i6 p, i6 q]) :: vr 4 (.agg [i6 w.s0, i6 w.s1, .sl 4 0 w.j.n, .sl 5 0 w.m.n]) :: vr 4 w.sv :: jR j :: mR m :: l)
noncomputable def moreL (w : Nw) (z a b p q : Int) : Nat → Option HSpec :=
  twoL 1008 (regH 2 (fun t _ => match sget 257 t 11, sget 257 t 12 with
      | .ptr r _ _, .ptr s _ _ => [some r, some s]
      | _, _ => []) (mkF 257 (frM z a b [])) (mkX [vr 4 w.sv, vr 2 (.agg [i6 p, i6 q]), vr 4 w.sv, vr 4 w.sv]) [(0, 0), (1, 0), (4, 2), (5, 2)] [] (some 2)) <|
  twoL 1009 (regH 4 (fun _ X => match X.row 2 with
      | some R => (match R.f 0 with
        | .agg [_, _, .sl a _ _, .sl b _ _] => [some a, some b]
        | _ => [])
      | none => []) (mkF 257 (frM z a b [])) (roM w p q w.j w.m []) [(2, 0), (6, 0), (9, 2), (11, 2)] [(3, 0), (7, 0)] none) <|
  twoL 1012 (regH 6 (fun _ _ => []) (mkF 257 (frM z a b [])) (roM w p q (jnM w a b) w.m []) [] [] none) <|
  twoL 1015 (regH 6 (fun _ _ => []) (mkF 257 (frM z a b [(15, i6 (a.tmod w.m.n))])) (roM w p q (jnM w a b) (mnM w a b) []) [] [] none) <|
  twoL 1033 (regN 257 23 4 (okC w) (fun i => mkF 257 [(1, i6 z), (3, u8 b), (4, .ptr 0 0 0), (9, .ptr 1 0 0), (22, .ptr 2 0 0), (23, i6 i)])
      (fun i => mkX [vr 4 w.sv, vr 2 (.agg [i6 p, i6 q]), vr 4 (.agg [i6 w.s0, i6 w.s1, .sl 3 0 w.j.n, w.m.sv]), jR (jnC w b (i + 1))]) [(1, 2), (4, 2), (13, 3), (16, 3)] []) <|
  oneL 0 (natM (fun i => i ≤ w.j.n ∧ okNet w) (fun i => w.j.n - i) 2 (fun t X => match sget 257 t 22 with
      | .ptr r _ _ => (match X.row r with
        | some R => (match R.f 0 with
          | .agg [_, _, .sl a _ _, _] => [some r, some a]
          | _ => [])
        | none => [])
      | _ => []) (fun i => mkF 257 [(1, i6 z), (3, u8 b), (4, .ptr 0 0 0), (9, .ptr 1 0 0), (22, .ptr 2 0 0), (23, i6 i)])
      (fun i => mkX [vr 4 w.sv, vr 2 (.agg [i6 p, i6 q]), vr 4 (.agg [i6 w.s0, i6 w.s1, .sl 3 0 w.j.n, w.m.sv]), jR (jnC w b i)]))
noncomputable def csM : CSpec := ctrsF [withC] (ctrs [bigC, aliveC, PreC, FedC, vnetC 23, spnC])
noncomputable def moreG (w : Nw) (z a b : Int) : Prop := funH Try.prog csM noX (ictrs []) (moreL w z a b (PrL w z) (PrH w z)) noL 7 [w.sv, i6 z, u8 a, u8 b] (.bool true)
end Go.Proofs.Ytpannbkmpbioiaa

set_option linter.unusedVariables false
namespace Go.Proofs.Ytpannbkmpbioiaa
open Go Go.Lg
attribute [local irreducible] bodyH
theorem opM_va {m m' : Mn} (hf : m.fr = m'.fr) (hv : m.va = m'.va) (j : Nat) : (opM m j).va = (opM m' j).va := by
  funext k
  show vaT m j (dpt m j j) k = vaT m' j (dpt m' j j) k
  unfold vaT
  simp only [dpt_congr hf, up_congr hf j, hv]
theorem fed_congr {m m' : Mn} (hf : m.fr = m'.fr) (hv : m.va = m'.va) (j : Nat) : fedS m j = fedS m' j := by
  unfold fedS stt
  simp only [dpt_congr hf, up_congr hf j, hv]
theorem ledL_same {m m' : Mn} {b : Bool} (hn : m.n = m'.n) (hf : m.fr = m'.fr) (hv : m.va = m'.va) : ∀ F j, ledL m b F j = ledL m' b F j
  | 0, j => rfl
  | F + 1, j => by
    simp only [ledL]
    congr 1
    rw [← hn, List.flatMap_def, List.flatMap_def]
    congr 1
    refine List.map_congr_left fun k hk => ?_
    rw [hf, hv, ledL_same hn hf hv F (k + 1)]
theorem sumL_pw {f g : Nat → Int} (h : ∀ i, f i ≤ g i) : ∀ l, sumL f l ≤ sumL g l
  | [] => Int.le_refl _
  | x :: l => by have := h x; have := sumL_pw h l; simp only [sumL]; omega
open Classical in
theorem flow_nn {w : Nw} (h : okNet w) (b : Bool) {i : Nat} (hi : i < w.j.n) : 0 ≤ flowS b w i := by
  rw [flow_mem h b hi]
  have : sumN (fun _ => (0 : Int)) w.j.n ≤ sumN (fun x => if memB w.m b i x then needE b (w.j.nl x) (w.j.nh x) else 0) w.j.n := by
    refine sumN_le fun x hx => ?_
    have := need_le h b (i := x) hx
    split <;> omega
  rw [sumN_zero fun x _ => rfl] at this
  exact this
structure lessN (w w' : Nw) : Prop where
  h : okNet w
  h' : okNet w'
  jn : w.j.n = w'.j.n
  n : w.m.n = w'.m.n
  fr : w.m.fr = w'.m.fr
  va : w.m.va = w'.m.va
  go : w.j.go = w'.j.go
  s : w'.s0 ≤ w.s0 ∧ w'.s1 ≤ w.s1
  nd : ∀ i, w.j.nl i ≤ w'.j.nl i ∧ w.j.nh i ≤ w'.j.nh i
  dr : ∀ k, k < w.m.n → w.m.dr k ≤ w'.m.dr k
theorem prL_mono {w w' : Nw} (L : lessN w w') (b : Bool) : ∀ F j, j < w.j.n → prL b w' F j ≤ prL b w F j := by
  have hs : srcE b w'.s0 w'.s1 ≤ srcE b w.s0 w.s1 := by
    have := L.s
    cases b
    · exact this.2
    · exact this.1
  intro F
  induction F with
  | zero =>
    intro j hj
    simp only [prL, L.go]
    exact gov_mono hs
  | succ F ih =>
    intro j hj
    simp only [prL, L.go]
    refine gov_mono ?_
    split
    · exact hs
    · rename_i h0
      have hnn := L.h.n
      have hk : j - 1 < w.m.n := by omega
      have h1 := L.h.okm (j - 1) hk
      have h2 := ih (w.m.fr (j - 1)).toNat (by omega)
      have f0 := flow_nn L.h b hj
      have f1 : flowS b w j ≤ flowS b w' j := by
        unfold flowS led
        rw [ledL_same L.n L.fr L.va, L.n]
        refine sumL_pw (fun i => ?_) _
        have := L.nd i
        cases b
        · exact this.1
        · exact this.2
      have d0 := (L.h.ms (j - 1) hk).dr.1
      have d1 := L.dr (j - 1) hk
      have p1 := Int.mul_le_mul_of_nonneg_left f1 d0
      have p2 := Int.mul_le_mul_of_nonneg_right d1 (show 0 ≤ flowS b w' j by omega)
      rw [← L.fr]
      omega
theorem lessN.op {w w' : Nw} (L : lessN w w') (j : Nat) : lessN (opW w j) (opW w' j) :=
  ⟨L.h.op j, L.h'.op j, L.jn, L.n, L.fr, opM_va L.fr L.va j, L.go, L.s, L.nd, L.dr⟩
theorem chk_fed {w : Nw} {z : Int} (hE : PrE w z = 0) : okNet w ∧ (0 ≤ z ∧ z < w.j.n) ∧ ¬ fedS w.m z.toNat = 0 := by
  have hc : chkN w z = 0 := by
    unfold PrE at hE
    split at hE
    · assumption
    · exact hE
  obtain ⟨hok, hz⟩ := chk_zero hc
  exact ⟨hok, hz, fun hf => by simp [PrE, hc, hf] at hE⟩
theorem fed_PrE {w : Nw} {z : Int} (h : okNet w) (hz : 0 ≤ z ∧ z < w.j.n) (hf : ¬ fedS w.m z.toNat = 0) : PrE w z = 0 := by
  have : chkN w z = 0 := by simp [chkN, h, hz]
  simp [PrE, this, hf]
theorem pr_mono {w w' : Nw} (L : lessN w w') {z : Int} (hz : 0 ≤ z ∧ z < w.j.n) (hf : ¬ fedS w.m z.toNat = 0) : PrE w z = 0 ∧ PrE w' z = 0 ∧ PrL w' z ≤ PrL w z ∧ PrH w' z ≤ PrH w z := by
  have e1 := fed_PrE L.h hz hf
  have e2 := fed_PrE (w := w') (z := z) L.h' (by have := L.jn; omega) (by rw [← fed_congr L.fr L.va]; exact hf)
  refine ⟨e1, e2, ?_, ?_⟩
  · simp only [PrL, e1, e2, if_true]
    exact prL_mono (L.op _) true _ _ (by show z.toNat < w.j.n; omega)
  · simp only [PrH, e1, e2, if_true]
    exact prL_mono (L.op _) false _ _ (by show z.toNat < w.j.n; omega)
def nM (w : Nw) (a b : Int) (m : Mn) : Nw := ⟨w.s0, w.s1, jnM w a b, m⟩
def nHi (w : Nw) (b : Int) : Nw := ⟨min 1099511627776 (w.s0 + b), min 1099511627776 (w.s1 + b), w.j, w.m⟩
noncomputable def nC (w : Nw) (b : Int) (i : Nat) : Nw := ⟨w.s0, w.s1, jnC w b i, w.m⟩
theorem tmod_ix {a : Int} {n : Nat} (ha : 0 ≤ a) (hn : 1 ≤ n) : 0 ≤ a.tmod (n : Int) ∧ a.tmod (n : Int) < (n : Int) := ⟨Int.tmod_nonneg _ ha, Int.tmod_lt_of_pos _ (by omega)⟩
theorem less_M {w : Nw} {a b : Int} (h : okNet w) (ha : 0 ≤ a) (hb : 0 ≤ b) {m : Mn} (hm : m = w.m ∨ (1 ≤ w.m.n ∧ m = mnM w a b)) : lessN w (nM w a b m) := by
  have hn := h.n
  have hx := tmod_ix (n := w.j.n) ha (by omega)
  have hj : jx w a < w.j.n := by unfold jx; omega
  have nd : ∀ i, w.j.nl i ≤ ndM w a b i (w.j.nl i) ∧ w.j.nh i ≤ ndM w a b i (w.j.nh i) := fun i => by
    unfold ndM
    by_cases e : i = jx w a
    · rw [if_pos e, if_pos e, e]
      have := (h.js (jx w a) hj).need
      omega
    · rw [if_neg e, if_neg e]; omega
  have jo : ∀ i, i < w.j.n → okJn (ndM w a b i (w.j.nl i)) (ndM w a b i (w.j.nh i)) (w.j.le i) (w.j.mo i) (w.j.go i) := fun i hi => by
    have h1 := h.js i hi
    have h2 := h1.need
    refine ⟨?_, h1.press, h1.gov⟩
    unfold ndM
    split <;> omega
  rcases hm with rfl | ⟨h1, rfl⟩
  · exact ⟨h, ⟨h.src, h.n, jo, h.ms⟩, rfl, rfl, rfl, rfl, rfl, ⟨Int.le_refl _, Int.le_refl _⟩, nd, fun k hk => Int.le_refl _⟩
  · have b7 := Int.tmod_nonneg 7 hb
    have hd : ∀ k, k < w.m.n → w.m.dr k ≤ drX w a b k (w.m.dr k) ∧ drX w a b k (w.m.dr k) ≤ 1000 := fun k hk => by
      have := (h.ms k hk).dr
      unfold drX
      split <;> omega
    refine ⟨h, ⟨h.src, h.n, jo, fun k hk => ?_⟩, rfl, rfl, rfl, rfl, rfl, ⟨Int.le_refl _, Int.le_refl _⟩, nd, fun k hk => (hd k hk).1⟩
    have h2 := h.ms k hk
    have h3 := hd k hk
    have h4 := h2.dr
    exact ⟨h2.fr, ⟨by show 0 ≤ drX w a b k (w.m.dr k); omega, h3.2⟩, h2.va, h2.co⟩
theorem less_Hi {w : Nw} {b : Int} (h : okNet w) (hb : 0 ≤ b) : lessN (nHi w b) w := by
  have hs := h.src
  refine ⟨⟨?_, h.n, h.js, h.ms⟩, h, rfl, rfl, rfl, rfl, rfl, ?_, fun i => ⟨Int.le_refl _, Int.le_refl _⟩, fun k hk => Int.le_refl _⟩
  · show 0 ≤ min 1099511627776 (w.s0 + b) ∧ min 1099511627776 (w.s0 + b) ≤ min 1099511627776 (w.s1 + b) ∧ min 1099511627776 (w.s1 + b) ≤ 1099511627776
    omega
  · show w.s0 ≤ min 1099511627776 (w.s0 + b) ∧ w.s1 ≤ min 1099511627776 (w.s1 + b)
    omega
theorem less_W {w : Nw} (h : okNet w) (o : Nat) : lessN (wW w o) w := by
  have hd : ∀ k, k < w.m.n → 0 ≤ drM w.m o w.m.n k ∧ drM w.m o w.m.n k ≤ w.m.dr k := fun k hk => by
    have h1 := (h.ms k hk).dr
    have e : (w.m.dr k + 1).tdiv 2 = (w.m.dr k + 1) / 2 := Int.tdiv_eq_ediv_of_nonneg (by omega)
    unfold drM drH
    rw [e]
    split <;> omega
  refine ⟨⟨h.src, h.n, h.js, fun k hk => ?_⟩, h, rfl, rfl, rfl, rfl, rfl, ⟨Int.le_refl _, Int.le_refl _⟩, fun i => ⟨Int.le_refl _, Int.le_refl _⟩, fun k hk => (hd k hk).2⟩
  have h2 := h.ms k hk
  have h3 := hd k hk
  have h4 := h2.dr
  exact ⟨h2.fr, ⟨h3.1, by show drM w.m o w.m.n k ≤ 1000; omega⟩, h2.va, h2.co⟩
end Go.Proofs.Ytpannbkmpbioiaa

set_option linter.unusedVariables false
set_option maxRecDepth 100000
namespace Go.Proofs.Ytpannbkmpbioiaa
open Go Go.Lg
theorem moreG_vc (w : Nw) (z : Int) (a : Int) (b : Int) : moreG w z a b = ((0 : Nat) < (1 : Nat) ∧ (∀ (i : Nat), i < w.j.1 → True ∧ True ∧ True ∧ True ∧ True ∧ True) ∧ (∀ (i : Nat), i < w.m.1 → True ∧ True ∧ True ∧ True ∧ True) ∧ w.sv = w.sv ∧ (bigP w (8 : Int) → true = true ∧ True) ∧ (¬bigP w (8 : Int) → (0 : Nat) < (1 : Nat) ∧ (∀ (i : Nat), i < w.j.1 → True ∧ True ∧ True ∧ True ∧ True ∧ True) ∧ (∀ (i : Nat), i < w.m.1 → True ∧ True ∧ True ∧ True ∧ True) ∧ w.sv = w.sv ∧ (¬PrE w z = (0 : Int) → (0 : Nat) < (1 : Nat) ∧ (PrL w z = (0 : Int) ∧ PrH w z = (0 : Int) → true = true ∧ True) ∧ (¬(PrL w z = (0 : Int) ∧ PrH w z = (0 : Int)) → false = true ∧ True)) ∧ (¬¬PrE w z = (0 : Int) → (0 : Nat) < (1 : Nat) ∧ (∀ (i : Nat), i < w.j.1 → True ∧ True ∧ True ∧ True ∧ True ∧ True) ∧ (∀ (i : Nat), i < w.m.1 → True ∧ True ∧ True ∧ True ∧ True) ∧ w.sv = w.sv ∧ (¬okNet w → false = true ∧ True) ∧ (¬¬okNet w → (True ∧ (0 : Nat) < (1 : Nat) ∧ True ∧ (0 : Nat) < (1 : Nat) ∧ (True ∧ True ∧ True ∧ True ∧ True ∧ z = z ∧ a = a ∧ b = b ∧ (0 : Nat) = (0 : Nat) ∧ (0 : Nat) = (0 : Nat) ∧ (0 : Nat) = (0 : Nat) ∧ (0 : Nat) = (0 : Nat) ∧ (0 : Nat) = (0 : Nat) ∧ (0 : Nat) = (0 : Nat) ∧ (0 : Nat) = (0 : Nat) ∧ (0 : Nat) = (0 : Nat) ∧ w.1 = w.1 ∧ w.2 = w.2 ∧ w.j.1 = w.j.1 ∧ (∀ (i : Nat), i < w.j.1 → (SV.agg [i6 (w.j.nl i), i6 (w.j.nh i), i6 (w.j.le i), i6 (w.j.mo i), i6 (w.j.go i)]).den = (SV.agg [i6 (w.j.nl i), i6 (w.j.nh i), i6 (w.j.le i), i6 (w.j.mo i), i6 (w.j.go i)]).den ∧ True ∧ True ∧ True ∧ True ∧ True ∧ True) ∧ w.m.1 = w.m.1 ∧ (∀ (i : Nat), i < w.m.1 → (SV.agg [i6 (w.m.fr i), i6 (w.m.dr i), i6 (w.m.va i), i6 (w.m.co i)]).den = (SV.agg [i6 (w.m.fr i), i6 (w.m.dr i), i6 (w.m.va i), i6 (w.m.co i)]).den ∧ True ∧ True ∧ True ∧ True ∧ True) ∧ PrL w z = PrL w z ∧ PrH w z = PrH w z ∧ w.1 = w.1 ∧
 w.2 = w.2 ∧ w.j.1 = w.j.1 ∧ (∀ (i : Nat), i < w.j.1 → (SV.agg [i6 (w.j.nl i), i6 (w.j.nh i), i6 (w.j.le i), i6 (w.j.mo i), i6 (w.j.go i)]).den = (SV.agg [i6 (w.j.nl i), i6 (w.j.nh i), i6 (w.j.le i), i6 (w.j.mo i), i6 (w.j.go i)]).den ∧ True ∧ True ∧ True ∧ True ∧ True ∧ True) ∧ w.m.1 = w.m.1 ∧ (∀ (i : Nat), i < w.m.1 → (SV.agg [i6 (w.m.fr i), i6 (w.m.dr i), i6 (w.m.va i), i6 (w.m.co i)]).den = (SV.agg [i6 (w.m.fr i), i6 (w.m.dr i), i6 (w.m.va i), i6 (w.m.co i)]).den ∧ True ∧ True ∧ True ∧ True ∧ True) ∧ w.1 = w.1 ∧ w.2 = w.2 ∧ w.j.1 = w.j.1 ∧ (∀ (i : Nat), i < w.j.1 → (SV.agg [i6 (w.j.nl i), i6 (w.j.nh i), i6 (w.j.le i), i6 (w.j.mo i), i6 (w.j.go i)]).den = (SV.agg [i6 (w.j.nl i), i6 (w.j.nh i), i6 (w.j.le i), i6 (w.j.mo i), i6 (w.j.go i)]).den ∧ True ∧ True ∧ True ∧ True ∧ True ∧ True) ∧ w.m.1 = w.m.1 ∧ (∀ (i : Nat), i < w.m.1 → (SV.agg [i6 (w.m.fr i), i6 (w.m.dr i), i6 (w.m.va i), i6 (w.m.co i)]).den = (SV.agg [i6 (w.m.fr i), i6 (w.m.dr i), i6 (w.m.va i), i6 (w.m.co i)]).den ∧ True ∧ True ∧ True ∧ True ∧ True) ∧ True) ∧ (True ∧ True ∧ True ∧ True ∧ True ∧ z = z ∧ a = a ∧ b = b ∧ (0 : Nat) = (0 : Nat) ∧ (0 : Nat) = (0 : Nat) ∧ (0 : Nat) = (0 : Nat) ∧ (0 : Nat) = (0 : Nat) ∧ (0 : Nat) = (0 : Nat) ∧ (0 : Nat) = (0 : Nat) ∧ (0 : Nat) = (0 : Nat) ∧ (0 : Nat) = (0 : Nat) ∧ w.1 = w.1 ∧ w.2 = w.2 ∧ w.j.1 = w.j.1 ∧ (∀ (i : Nat), i < w.j.1 → (SV.agg [i6 (w.j.nl i), i6 (w.j.nh i), i6 (w.j.le i), i6 (w.j.mo i), i6 (w.j.go i)]).den = (SV.agg [i6 (w.j.nl i), i6 (w.j.nh i), i6 (w.j.le i), i6 (w.j.mo i), i6 (w.j.go i)]).den ∧ True ∧ True ∧ True ∧ True ∧ True ∧ True) ∧ w.m.1 = w.m.1 ∧ (∀ (i : Nat), i < w.m.1 → (SV.agg [i6 (w.m.fr i), i6 (w.m.dr i), i6 (w.m.va i), i6 (w.m.co i)]).den = (SV.agg [i6 (w.m.fr i), i6 (w.m.dr i), i6 (w.m.va i), i6 (w.m.co i)]).den ∧ True ∧ True ∧ True ∧
 True ∧ True) ∧ PrL w z = PrL w z ∧ PrH w z = PrH w z ∧ w.1 = w.1 ∧ w.2 = w.2 ∧ w.j.1 = w.j.1 ∧ (∀ (i : Nat), i < w.j.1 → (SV.agg [i6 (w.j.nl i), i6 (w.j.nh i), i6 (w.j.le i), i6 (w.j.mo i), i6 (w.j.go i)]).den = (SV.agg [i6 (w.j.nl i), i6 (w.j.nh i), i6 (w.j.le i), i6 (w.j.mo i), i6 (w.j.go i)]).den ∧ True ∧ True ∧ True ∧ True ∧ True ∧ True) ∧ w.m.1 = w.m.1 ∧ (∀ (i : Nat), i < w.m.1 → (SV.agg [i6 (w.m.fr i), i6 (w.m.dr i), i6 (w.m.va i), i6 (w.m.co i)]).den = (SV.agg [i6 (w.m.fr i), i6 (w.m.dr i), i6 (w.m.va i), i6 (w.m.co i)]).den ∧ True ∧ True ∧ True ∧ True ∧ True) ∧ w.1 = w.1 ∧ w.2 = w.2 ∧ w.j.1 = w.j.1 ∧ (∀ (i : Nat), i < w.j.1 → (SV.agg [i6 (w.j.nl i), i6 (w.j.nh i), i6 (w.j.le i), i6 (w.j.mo i), i6 (w.j.go i)]).den = (SV.agg [i6 (w.j.nl i), i6 (w.j.nh i), i6 (w.j.le i), i6 (w.j.mo i), i6 (w.j.go i)]).den ∧ True ∧ True ∧ True ∧ True ∧ True ∧ True) ∧ w.m.1 = w.m.1 ∧ (∀ (i : Nat), i < w.m.1 → (SV.agg [i6 (w.m.fr i), i6 (w.m.dr i), i6 (w.m.va i), i6 (w.m.co i)]).den = (SV.agg [i6 (w.m.fr i), i6 (w.m.dr i), i6 (w.m.va i), i6 (w.m.co i)]).den ∧ True ∧ True ∧ True ∧ True ∧ True) ∧ True) ∧ True) ∧ ∀ (z_1 : Unit), True → (True ∧ True ∧ True ∧ True ∧ (0 : Nat) < (1 : Nat) ∧ True ∧ True ∧ True ∧ True ∧ (0 : Nat) < (1 : Nat) ∧ (True ∧ True ∧ (True ∧ True ∧ (∀ (i : Nat), i < w.j.1 → true = true) ∧ (0 : Nat) = (0 : Nat) ∧ (0 : Nat) = (0 : Nat) ∧ (∀ (i : Nat), true = true) ∧ ((0 : Nat) + w.j.1) * (40 : Nat) ≤ (140737488355328 : Nat) ∧ (0 : Nat) + w.j.1 ≤ (4611686018427387904 : Nat) ∧ True ∧ True ∧ (True ∧ True ∧ True ∧ True ∧ (∀ (i : Nat), i < w.m.1 → true = true) ∧ (0 : Nat) = (0 : Nat) ∧ (0 : Nat) = (0 : Nat) ∧ (∀ (i : Nat), true = true) ∧ ((0 : Nat) + w.m.1) * (32 : Nat) ≤ (140737488355328 : Nat) ∧ (0 : Nat) + w.m.1 ≤ (4611686018427387904 : Nat) ∧ True ∧ True ∧ True ∧
 True ∧ True ∧ True ∧ True ∧ z = z ∧ a = a ∧ b = b ∧ (0 : Nat) = (0 : Nat) ∧ (0 : Nat) = (0 : Nat) ∧ (0 : Nat) = (0 : Nat) ∧ (0 : Nat) = (0 : Nat) ∧ (0 : Nat) = (0 : Nat) ∧ (0 : Nat) = (0 : Nat) ∧ (0 : Nat) = (0 : Nat) ∧ (0 : Nat) = (0 : Nat) ∧ w.1 = w.1 ∧ w.2 = w.2 ∧ w.j.1 = w.j.1 ∧ (∀ (i : Nat), i < w.j.1 → (SV.agg [i6 (w.j.nl i), i6 (w.j.nh i), i6 (w.j.le i), i6 (w.j.mo i), i6 (w.j.go i)]).den = (SV.agg [i6 (w.j.nl i), i6 (w.j.nh i), i6 (w.j.le i), i6 (w.j.mo i), i6 (w.j.go i)]).den ∧ True ∧ True ∧ True ∧ True ∧ True ∧ True) ∧ w.m.1 = w.m.1 ∧ (∀ (i : Nat), i < w.m.1 → (SV.agg [i6 (w.m.fr i), i6 (w.m.dr i), i6 (w.m.va i), i6 (w.m.co i)]).den = (SV.agg [i6 (w.m.fr i), i6 (w.m.dr i), i6 (w.m.va i), i6 (w.m.co i)]).den ∧ True ∧ True ∧ True ∧ True ∧ True) ∧ PrL w z = PrL w z ∧ PrH w z = PrH w z ∧ w.1 = w.1 ∧ w.2 = w.2 ∧ (0 : Nat) = (0 : Nat) ∧ (0 : Nat) + w.j.1 = w.j.1 ∧ (0 : Nat) = (0 : Nat) ∧ (0 : Nat) + w.m.1 = w.m.1 ∧ w.1 = w.1 ∧ w.2 = w.2 ∧ w.j.1 = w.j.1 ∧ (∀ (i : Nat), i < w.j.1 → (SV.agg [i6 (w.j.nl i), i6 (w.j.nh i), i6 (w.j.le i), i6 (w.j.mo i), i6 (w.j.go i)]).den = (SV.agg [i6 (w.j.nl i), i6 (w.j.nh i), i6 (w.j.le i), i6 (w.j.mo i), i6 (w.j.go i)]).den ∧ True ∧ True ∧ True ∧ True ∧ True ∧ True) ∧ w.m.1 = w.m.1 ∧ (∀ (i : Nat), i < w.m.1 → (SV.agg [i6 (w.m.fr i), i6 (w.m.dr i), i6 (w.m.va i), i6 (w.m.co i)]).den = (SV.agg [i6 (w.m.fr i), i6 (w.m.dr i), i6 (w.m.va i), i6 (w.m.co i)]).den ∧ True ∧ True ∧ True ∧ True ∧ True) ∧ w.j.1 = (0 : Nat) + w.j.1 ∧ (∀ (i : Nat), i < w.j.1 → (5 : Nat) = (5 : Nat) ∧ (if i < (0 : Nat) then (0 : Int) else w.j.2 (i - (0 : Nat))) = w.j.2 i ∧ (if i < (0 : Nat) then (0 : Int) else w.j.3 (i - (0 : Nat))) = w.j.3 i ∧ (if i < (0 : Nat) then (0 : Int) else w.j.4 (i - (0 : Nat))) = w.j.4 i ∧ (if i < (0 : Nat) then (0 : Int) else w.j.5
 (i - (0 : Nat))) = w.j.5 i ∧ (if i < (0 : Nat) then (0 : Int) else w.j.6 (i - (0 : Nat))) = w.j.6 i ∧ True) ∧ w.m.1 = (0 : Nat) + w.m.1 ∧ (∀ (i : Nat), i < w.m.1 → (4 : Nat) = (4 : Nat) ∧ (if i < (0 : Nat) then (0 : Int) else w.m.2 (i - (0 : Nat))) = w.m.2 i ∧ (if i < (0 : Nat) then (0 : Int) else w.m.3 (i - (0 : Nat))) = w.m.3 i ∧ (if i < (0 : Nat) then (0 : Int) else w.m.4 (i - (0 : Nat))) = w.m.4 i ∧ (if i < (0 : Nat) then (0 : Int) else w.m.5 (i - (0 : Nat))) = w.m.5 i ∧ True) ∧ True) ∧ True) ∧ (True ∧ True ∧ True ∧ True ∧ (∀ (i : Nat), i < w.j.1 → true = true) ∧ (0 : Nat) = (0 : Nat) ∧ (0 : Nat) = (0 : Nat) ∧ (∀ (i : Nat), true = true) ∧ ((0 : Nat) + w.j.1) * (40 : Nat) ≤ (140737488355328 : Nat) ∧ (0 : Nat) + w.j.1 ≤ (4611686018427387904 : Nat) ∧ True ∧ True ∧ (∀ (i : Nat), i < w.m.1 → true = true) ∧ (0 : Nat) = (0 : Nat) ∧ (0 : Nat) = (0 : Nat) ∧ (∀ (i : Nat), true = true) ∧ ((0 : Nat) + w.m.1) * (32 : Nat) ≤ (140737488355328 : Nat) ∧ (0 : Nat) + w.m.1 ≤ (4611686018427387904 : Nat) ∧ True ∧ True ∧ True ∧ True ∧ True ∧ True ∧ True ∧ True ∧ True ∧ z = z ∧ a = a ∧ b = b ∧ (0 : Nat) = (0 : Nat) ∧ (0 : Nat) = (0 : Nat) ∧ (0 : Nat) = (0 : Nat) ∧ (0 : Nat) = (0 : Nat) ∧ (0 : Nat) = (0 : Nat) ∧ (0 : Nat) = (0 : Nat) ∧ (0 : Nat) = (0 : Nat) ∧ (0 : Nat) = (0 : Nat) ∧ w.1 = w.1 ∧ w.2 = w.2 ∧ w.j.1 = w.j.1 ∧ (∀ (i : Nat), i < w.j.1 → (SV.agg [i6 (w.j.nl i), i6 (w.j.nh i), i6 (w.j.le i), i6 (w.j.mo i), i6 (w.j.go i)]).den = (SV.agg [i6 (w.j.nl i), i6 (w.j.nh i), i6 (w.j.le i), i6 (w.j.mo i), i6 (w.j.go i)]).den ∧ True ∧ True ∧ True ∧ True ∧ True ∧ True) ∧ w.m.1 = w.m.1 ∧ (∀ (i : Nat), i < w.m.1 → (SV.agg [i6 (w.m.fr i), i6 (w.m.dr i), i6 (w.m.va i), i6 (w.m.co i)]).den = (SV.agg [i6 (w.m.fr i), i6 (w.m.dr i), i6 (w.m.va i), i6 (w.m.co i)]).den ∧ True ∧ True ∧ True ∧ True ∧
 True) ∧ PrL w z = PrL w z ∧ PrH w z = PrH w z ∧ w.1 = w.1 ∧ w.2 = w.2 ∧ (0 : Nat) = (0 : Nat) ∧ (0 : Nat) + w.j.1 = w.j.1 ∧ (0 : Nat) = (0 : Nat) ∧ (0 : Nat) + w.m.1 = w.m.1 ∧ w.1 = w.1 ∧ w.2 = w.2 ∧ w.j.1 = w.j.1 ∧ (∀ (i : Nat), i < w.j.1 → (SV.agg [i6 (w.j.nl i), i6 (w.j.nh i), i6 (w.j.le i), i6 (w.j.mo i), i6 (w.j.go i)]).den = (SV.agg [i6 (w.j.nl i), i6 (w.j.nh i), i6 (w.j.le i), i6 (w.j.mo i), i6 (w.j.go i)]).den ∧ True ∧ True ∧ True ∧ True ∧ True ∧ True) ∧ w.m.1 = w.m.1 ∧ (∀ (i : Nat), i < w.m.1 → (SV.agg [i6 (w.m.fr i), i6 (w.m.dr i), i6 (w.m.va i), i6 (w.m.co i)]).den = (SV.agg [i6 (w.m.fr i), i6 (w.m.dr i), i6 (w.m.va i), i6 (w.m.co i)]).den ∧ True ∧ True ∧ True ∧ True ∧ True) ∧ w.j.1 = (0 : Nat) + w.j.1 ∧ (∀ (i : Nat), i < w.j.1 → (5 : Nat) = (5 : Nat) ∧ (if i < (0 : Nat) then (0 : Int) else w.j.2 (i - (0 : Nat))) = w.j.2 i ∧ (if i < (0 : Nat) then (0 : Int) else w.j.3 (i - (0 : Nat))) = w.j.3 i ∧ (if i < (0 : Nat) then (0 : Int) else w.j.4 (i - (0 : Nat))) = w.j.4 i ∧ (if i < (0 : Nat) then (0 : Int) else w.j.5 (i - (0 : Nat))) = w.j.5 i ∧ (if i < (0 : Nat) then (0 : Int) else w.j.6 (i - (0 : Nat))) = w.j.6 i ∧ True) ∧ w.m.1 = (0 : Nat) + w.m.1 ∧ (∀ (i : Nat), i < w.m.1 → (4 : Nat) = (4 : Nat) ∧ (if i < (0 : Nat) then (0 : Int) else w.m.2 (i - (0 : Nat))) = w.m.2 i ∧ (if i < (0 : Nat) then (0 : Int) else w.m.3 (i - (0 : Nat))) = w.m.3 i ∧ (if i < (0 : Nat) then (0 : Int) else w.m.4 (i - (0 : Nat))) = w.m.4 i ∧ (if i < (0 : Nat) then (0 : Int) else w.m.5 (i - (0 : Nat))) = w.m.5 i ∧ True) ∧ True) ∧ True) ∧ (True ∧ True ∧ (True ∧ True ∧ True ∧ True ∧ (∀ (i : Nat), i < w.j.1 → true = true) ∧ (0 : Nat) = (0 : Nat) ∧ (0 : Nat) = (0 : Nat) ∧ (∀ (i : Nat), true = true) ∧ ((0 : Nat) + w.j.1) * (40 : Nat) ≤ (140737488355328 : Nat) ∧ (0 : Nat) + w.j.1 ≤
 (4611686018427387904 : Nat) ∧ True ∧ True ∧ (∀ (i : Nat), i < w.m.1 → true = true) ∧ (0 : Nat) = (0 : Nat) ∧ (0 : Nat) = (0 : Nat) ∧ (∀ (i : Nat), true = true) ∧ ((0 : Nat) + w.m.1) * (32 : Nat) ≤ (140737488355328 : Nat) ∧ (0 : Nat) + w.m.1 ≤ (4611686018427387904 : Nat) ∧ True ∧ True ∧ True ∧ True ∧ True ∧ True ∧ True ∧ True ∧ True ∧ z = z ∧ a = a ∧ b = b ∧ (0 : Nat) = (0 : Nat) ∧ (0 : Nat) = (0 : Nat) ∧ (0 : Nat) = (0 : Nat) ∧ (0 : Nat) = (0 : Nat) ∧ (0 : Nat) = (0 : Nat) ∧ (0 : Nat) = (0 : Nat) ∧ (0 : Nat) = (0 : Nat) ∧ (0 : Nat) = (0 : Nat) ∧ w.1 = w.1 ∧ w.2 = w.2 ∧ w.j.1 = w.j.1 ∧ (∀ (i : Nat), i < w.j.1 → (SV.agg [i6 (w.j.nl i), i6 (w.j.nh i), i6 (w.j.le i), i6 (w.j.mo i), i6 (w.j.go i)]).den = (SV.agg [i6 (w.j.nl i), i6 (w.j.nh i), i6 (w.j.le i), i6 (w.j.mo i), i6 (w.j.go i)]).den ∧ True ∧ True ∧ True ∧ True ∧ True ∧ True) ∧ w.m.1 = w.m.1 ∧ (∀ (i : Nat), i < w.m.1 → (SV.agg [i6 (w.m.fr i), i6 (w.m.dr i), i6 (w.m.va i), i6 (w.m.co i)]).den = (SV.agg [i6 (w.m.fr i), i6 (w.m.dr i), i6 (w.m.va i), i6 (w.m.co i)]).den ∧ True ∧ True ∧ True ∧ True ∧ True) ∧ PrL w z = PrL w z ∧ PrH w z = PrH w z ∧ w.1 = w.1 ∧ w.2 = w.2 ∧ (0 : Nat) = (0 : Nat) ∧ (0 : Nat) + w.j.1 = w.j.1 ∧ (0 : Nat) = (0 : Nat) ∧ (0 : Nat) + w.m.1 = w.m.1 ∧ w.1 = w.1 ∧ w.2 = w.2 ∧ w.j.1 = w.j.1 ∧ (∀ (i : Nat), i < w.j.1 → (SV.agg [i6 (w.j.nl i), i6 (w.j.nh i), i6 (w.j.le i), i6 (w.j.mo i), i6 (w.j.go i)]).den = (SV.agg [i6 (w.j.nl i), i6 (w.j.nh i), i6 (w.j.le i), i6 (w.j.mo i), i6 (w.j.go i)]).den ∧ True ∧ True ∧ True ∧ True ∧ True ∧ True) ∧ w.m.1 = w.m.1 ∧ (∀ (i : Nat), i < w.m.1 → (SV.agg [i6 (w.m.fr i), i6 (w.m.dr i), i6 (w.m.va i), i6 (w.m.co i)]).den = (SV.agg [i6 (w.m.fr i), i6 (w.m.dr i), i6 (w.m.va i), i6 (w.m.co i)]).den ∧ True ∧ True ∧ True ∧ True ∧ True) ∧ w.j.1 = (0 : Nat) + w.j.1 ∧ (∀ (i :
 Nat), i < w.j.1 → (5 : Nat) = (5 : Nat) ∧ (if i < (0 : Nat) then (0 : Int) else w.j.2 (i - (0 : Nat))) = w.j.2 i ∧ (if i < (0 : Nat) then (0 : Int) else w.j.3 (i - (0 : Nat))) = w.j.3 i ∧ (if i < (0 : Nat) then (0 : Int) else w.j.4 (i - (0 : Nat))) = w.j.4 i ∧ (if i < (0 : Nat) then (0 : Int) else w.j.5 (i - (0 : Nat))) = w.j.5 i ∧ (if i < (0 : Nat) then (0 : Int) else w.j.6 (i - (0 : Nat))) = w.j.6 i ∧ True) ∧ w.m.1 = (0 : Nat) + w.m.1 ∧ (∀ (i : Nat), i < w.m.1 → (4 : Nat) = (4 : Nat) ∧ (if i < (0 : Nat) then (0 : Int) else w.m.2 (i - (0 : Nat))) = w.m.2 i ∧ (if i < (0 : Nat) then (0 : Int) else w.m.3 (i - (0 : Nat))) = w.m.3 i ∧ (if i < (0 : Nat) then (0 : Int) else w.m.4 (i - (0 : Nat))) = w.m.4 i ∧ (if i < (0 : Nat) then (0 : Int) else w.m.5 (i - (0 : Nat))) = w.m.5 i ∧ True) ∧ True) ∧ True) ∧ True) ∧ ∀ (z_2 : Unit), True → ((-9223372036854775808 : Int) ≤ a ∧ a ≤ (9223372036854775807 : Int)) ∧ (0 : Nat) < (1 : Nat) ∧ ((↑w.j.1 : Int) = (0 : Int) → False) ∧ (0 : Nat) < (1 : Nat) ∧ (0 : Int) ≤ a.tmod (↑w.j.1 : Int) ∧ a.tmod (↑w.j.1 : Int) < (↑w.j.1 : Int) ∧ (0 : Nat) + (a.tmod (↑w.j.1 : Int)).toNat < w.j.1 ∧ (True ∧ True ∧ True ∧ True ∧ (0 : Nat) < (1 : Nat) ∧ True ∧ True ∧ True ∧ True ∧ True ∧ True ∧ (0 : Nat) < (1 : Nat) ∧ True ∧ True ∧ True ∧ True ∧ ((-9223372036854775808 : Int) ≤ b ∧ b ≤ (9223372036854775807 : Int)) ∧ True ∧ True ∧ ((-9223372036854775808 : Int) ≤ w.j.2 ((0 : Nat) + (a.tmod (↑w.j.n : Int)).toNat) + b ∧ w.j.2 ((0 : Nat) + (a.tmod (↑w.j.n : Int)).toNat) + b ≤ (9223372036854775807 : Int)) ∧ True ∧ True ∧ True ∧ True ∧ True ∧ True ∧ (0 : Nat) < (1 : Nat) ∧ True ∧ True ∧ True ∧ True ∧ ((-9223372036854775808 : Int) ≤ b ∧ b ≤ (9223372036854775807 : Int)) ∧ True ∧ True ∧ ((-9223372036854775808 : Int) ≤ w.j.3 ((0 : Nat) + (a.tmod (↑w.j.n : Int)).toNat) +
 b ∧ w.j.3 ((0 : Nat) + (a.tmod (↑w.j.n : Int)).toNat) + b ≤ (9223372036854775807 : Int)) ∧ True ∧ True ∧ True ∧ True ∧ (True ∧ True ∧ (0 : Int) ≤ a.tmod (↑w.j.1 : Int) ∧ a.tmod (↑w.j.1 : Int) < (↑w.j.1 : Int) ∧ True ∧ True ∧ True ∧ True ∧ (0 : Nat) + (2 : Nat) ≤ (5 : Nat) ∧ (0 : Nat) + (a.tmod (↑w.j.1 : Int)).toNat < w.j.1 ∧ (∀ (i' : Nat), true = true) ∧ True ∧ z = z ∧ a = a ∧ b = b ∧ (0 : Nat) = (0 : Nat) ∧ (0 : Nat) = (0 : Nat) ∧ (0 : Nat) = (0 : Nat) ∧ (0 : Nat) = (0 : Nat) ∧ (0 : Nat) = (0 : Nat) ∧ (0 : Nat) = (0 : Nat) ∧ (0 : Nat) = (0 : Nat) ∧ (0 : Nat) = (0 : Nat) ∧ w.1 = w.1 ∧ w.2 = w.2 ∧ w.j.1 = w.j.1 ∧ (∀ (i : Nat), i < w.j.1 → (SV.agg [i6 (w.j.nl i), i6 (w.j.nh i), i6 (w.j.le i), i6 (w.j.mo i), i6 (w.j.go i)]).den = (SV.agg [i6 (w.j.nl i), i6 (w.j.nh i), i6 (w.j.le i), i6 (w.j.mo i), i6 (w.j.go i)]).den ∧ True ∧ True ∧ True ∧ True ∧ True ∧ True) ∧ w.m.1 = w.m.1 ∧ (∀ (i : Nat), i < w.m.1 → (SV.agg [i6 (w.m.fr i), i6 (w.m.dr i), i6 (w.m.va i), i6 (w.m.co i)]).den = (SV.agg [i6 (w.m.fr i), i6 (w.m.dr i), i6 (w.m.va i), i6 (w.m.co i)]).den ∧ True ∧ True ∧ True ∧ True ∧ True) ∧ PrL w z = PrL w z ∧ PrH w z = PrH w z ∧ w.1 = w.1 ∧ w.2 = w.2 ∧ (0 : Nat) = (0 : Nat) ∧ w.j.1 = w.j.1 ∧ (0 : Nat) = (0 : Nat) ∧ w.m.1 = w.m.1 ∧ w.1 = w.1 ∧ w.2 = w.2 ∧ w.j.1 = w.j.1 ∧ (∀ (i : Nat), i < w.j.1 → (SV.agg [i6 (w.j.nl i), i6 (w.j.nh i), i6 (w.j.le i), i6 (w.j.mo i), i6 (w.j.go i)]).den = (SV.agg [i6 (w.j.nl i), i6 (w.j.nh i), i6 (w.j.le i), i6 (w.j.mo i), i6 (w.j.go i)]).den ∧ True ∧ True ∧ True ∧ True ∧ True ∧ True) ∧ w.m.1 = w.m.1 ∧ (∀ (i : Nat), i < w.m.1 → (SV.agg [i6 (w.m.fr i), i6 (w.m.dr i), i6 (w.m.va i), i6 (w.m.co i)]).den = (SV.agg [i6 (w.m.fr i), i6 (w.m.dr i), i6 (w.m.va i), i6 (w.m.co i)]).den ∧ True ∧ True ∧ True ∧ True ∧ True) ∧ w.j.1 = w.j.1 ∧ (∀ (i : Nat),
 i < w.j.1 → (5 : Nat) = (5 : Nat) ∧ (if i = (0 : Nat) + (a.tmod (↑w.j.1 : Int)).toNat then min (1000000 : Int) (w.j.2 ((0 : Nat) + (a.tmod (↑w.j.n : Int)).toNat) + b) else w.j.2 i) = ndM w a b i (w.j.2 i) ∧ (if i = (0 : Nat) + (a.tmod (↑w.j.1 : Int)).toNat then min (1000000 : Int) (w.j.3 ((0 : Nat) + (a.tmod (↑w.j.n : Int)).toNat) + b) else w.j.3 i) = ndM w a b i (w.j.3 i) ∧ (if i = (0 : Nat) + (a.tmod (↑w.j.1 : Int)).toNat then w.j.4 i else w.j.4 i) = w.j.4 i ∧ (if i = (0 : Nat) + (a.tmod (↑w.j.1 : Int)).toNat then w.j.5 i else w.j.5 i) = w.j.5 i ∧ (if i = (0 : Nat) + (a.tmod (↑w.j.1 : Int)).toNat then w.j.6 i else w.j.6 i) = w.j.6 i ∧ True) ∧ w.m.1 = w.m.1 ∧ (∀ (i : Nat), i < w.m.1 → (4 : Nat) = (4 : Nat) ∧ w.m.2 i = w.m.2 i ∧ w.m.3 i = w.m.3 i ∧ w.m.4 i = w.m.4 i ∧ w.m.5 i = w.m.5 i ∧ True) ∧ True) ∧ True) ∧ ∀ (z_3 : Unit), True → (0 : Nat) < (1 : Nat) ∧ ((0 : Int) < (↑w.m.1 : Int) → ((-9223372036854775808 : Int) ≤ a ∧ a ≤ (9223372036854775807 : Int)) ∧ (0 : Nat) < (1 : Nat) ∧ ((↑w.m.1 : Int) = (0 : Int) → False) ∧ (True ∧ True ∧ True ∧ True ∧ (0 : Nat) < (1 : Nat) ∧ True ∧ True ∧ True ∧ True ∧ True ∧ True ∧ (0 : Nat) < (1 : Nat) ∧ True ∧ True ∧ True ∧ True ∧ (0 : Int) ≤ a.tmod (↑w.m.1 : Int) ∧ a.tmod (↑w.m.1 : Int) < (↑w.m.1 : Int) ∧ True ∧ True ∧ True ∧ True ∧ (0 : Nat) + (a.tmod (↑w.m.1 : Int)).toNat < w.m.1 ∧ True ∧ True ∧ True ∧ True ∧ ((-9223372036854775808 : Int) ≤ b ∧ b ≤ (9223372036854775807 : Int)) ∧ True ∧ True ∧ ((7 : Int) = (0 : Int) → False) ∧ True ∧ True ∧ ((-9223372036854775808 : Int) ≤ w.m.3 ((0 : Nat) + (a.tmod (↑w.m.n : Int)).toNat) + b.tmod (7 : Int) ∧ w.m.3 ((0 : Nat) + (a.tmod (↑w.m.n : Int)).toNat) + b.tmod (7 : Int) ≤ (9223372036854775807 : Int)) ∧ True ∧ True ∧ (True ∧ True ∧ (0 : Int) ≤ a.tmod (↑w.m.1 : Int) ∧ a.tmod (↑w.m.1 : Int) <
 (↑w.m.1 : Int) ∧ True ∧ True ∧ True ∧ True ∧ (1 : Nat) + (1 : Nat) ≤ (4 : Nat) ∧ (0 : Nat) + (a.tmod (↑w.m.1 : Int)).toNat < w.m.1 ∧ (∀ (i' : Nat), true = true) ∧ True ∧ z = z ∧ a = a ∧ b = b ∧ (0 : Nat) = (0 : Nat) ∧ (0 : Nat) = (0 : Nat) ∧ (0 : Nat) = (0 : Nat) ∧ (0 : Nat) = (0 : Nat) ∧ (0 : Nat) = (0 : Nat) ∧ (0 : Nat) = (0 : Nat) ∧ (0 : Nat) = (0 : Nat) ∧ (0 : Nat) = (0 : Nat) ∧ a.tmod (↑w.m.1 : Int) = a.tmod (↑w.m.n : Int) ∧ w.1 = w.1 ∧ w.2 = w.2 ∧ w.j.1 = w.j.1 ∧ (∀ (i : Nat), i < w.j.1 → (SV.agg [i6 (w.j.nl i), i6 (w.j.nh i), i6 (w.j.le i), i6 (w.j.mo i), i6 (w.j.go i)]).den = (SV.agg [i6 (w.j.nl i), i6 (w.j.nh i), i6 (w.j.le i), i6 (w.j.mo i), i6 (w.j.go i)]).den ∧ True ∧ True ∧ True ∧ True ∧ True ∧ True) ∧ w.m.1 = w.m.1 ∧ (∀ (i : Nat), i < w.m.1 → (SV.agg [i6 (w.m.fr i), i6 (w.m.dr i), i6 (w.m.va i), i6 (w.m.co i)]).den = (SV.agg [i6 (w.m.fr i), i6 (w.m.dr i), i6 (w.m.va i), i6 (w.m.co i)]).den ∧ True ∧ True ∧ True ∧ True ∧ True) ∧ PrL w z = PrL w z ∧ PrH w z = PrH w z ∧ w.1 = w.1 ∧ w.2 = w.2 ∧ (0 : Nat) = (0 : Nat) ∧ w.j.1 = w.j.1 ∧ (0 : Nat) = (0 : Nat) ∧ w.m.1 = w.m.1 ∧ w.1 = w.1 ∧ w.2 = w.2 ∧ w.j.1 = w.j.1 ∧ (∀ (i : Nat), i < w.j.1 → (SV.agg [i6 (w.j.nl i), i6 (w.j.nh i), i6 (w.j.le i), i6 (w.j.mo i), i6 (w.j.go i)]).den = (SV.agg [i6 (w.j.nl i), i6 (w.j.nh i), i6 (w.j.le i), i6 (w.j.mo i), i6 (w.j.go i)]).den ∧ True ∧ True ∧ True ∧ True ∧ True ∧ True) ∧ w.m.1 = w.m.1 ∧ (∀ (i : Nat), i < w.m.1 → (SV.agg [i6 (w.m.fr i), i6 (w.m.dr i), i6 (w.m.va i), i6 (w.m.co i)]).den = (SV.agg [i6 (w.m.fr i), i6 (w.m.dr i), i6 (w.m.va i), i6 (w.m.co i)]).den ∧ True ∧ True ∧ True ∧ True ∧ True) ∧ w.j.1 = w.j.1 ∧ (∀ (i : Nat), i < w.j.1 → (5 : Nat) = (5 : Nat) ∧ ndM w a b i (w.j.2 i) = ndM w a b i (w.j.2 i) ∧ ndM w a b i (w.j.3 i) = ndM w a b i (w.j.3 i) ∧ w.j.4 i = w.j.4
 i ∧ w.j.5 i = w.j.5 i ∧ w.j.6 i = w.j.6 i ∧ True) ∧ w.m.1 = w.m.1 ∧ (∀ (i : Nat), i < w.m.1 → (4 : Nat) = (4 : Nat) ∧ (if i = (0 : Nat) + (a.tmod (↑w.m.1 : Int)).toNat then w.m.2 i else w.m.2 i) = w.m.2 i ∧ (if i = (0 : Nat) + (a.tmod (↑w.m.1 : Int)).toNat then min (1000 : Int) (w.m.3 ((0 : Nat) + (a.tmod (↑w.m.n : Int)).toNat) + b.tmod (7 : Int)) else w.m.3 i) = drX w a b i (w.m.3 i) ∧ (if i = (0 : Nat) + (a.tmod (↑w.m.1 : Int)).toNat then w.m.4 i else w.m.4 i) = w.m.4 i ∧ (if i = (0 : Nat) + (a.tmod (↑w.m.1 : Int)).toNat then w.m.5 i else w.m.5 i) = w.m.5 i ∧ True) ∧ True) ∧ True) ∧ ∀ (z_4 : Unit), True → (0 : Nat) < (1 : Nat) ∧ ((0 : Int) ≤ a.tmod (↑w.m.n : Int) ∧ a.tmod (↑w.m.n : Int) ≤ (↑(64 : Nat) : Int)) ∧ ((-9223372036854775808 : Int) ≤ (1 : Int) * shP (a.tmod (↑w.m.n : Int)) ∧ (1 : Int) * shP (a.tmod (↑w.m.n : Int)) ≤ (9223372036854775807 : Int)) ∧ (∀ (i : Nat), i < w.j.1 → True ∧ True ∧ True ∧ True ∧ True ∧ True) ∧ (∀ (i : Nat), i < w.m.1 → True ∧ True ∧ True ∧ True ∧ True) ∧ w.sv = w.sv ∧ okWi w ((1 : Int) * shP (a.tmod (↑w.m.n : Int))) ∧ (∀ (i : Nat), i < w.j.1 → True ∧ True ∧ True ∧ True ∧ True ∧ True) ∧ (∀ (i : Nat), i < w.m.1 → True ∧ True ∧ True ∧ True ∧ True) ∧ (wW w ((1 : Int) * shP (a.tmod (↑w.m.n : Int))).toNat).sv = (wW w ((1 : Int) * shP (a.tmod (↑w.m.n : Int))).toNat).sv ∧ (¬PrE (wW w ((1 : Int) * shP (a.tmod (↑w.m.n : Int))).toNat) z = (0 : Int) → false = true ∧ True) ∧ (¬¬PrE (wW w ((1 : Int) * shP (a.tmod (↑w.m.n : Int))).toNat) z = (0 : Int) → (0 : Nat) < (1 : Nat) ∧ (0 : Nat) < (1 : Nat) ∧ (PrL (wW w ((1 : Int) * shP (a.tmod (↑w.m.n : Int))).toNat) z < PrL w z → false = true ∧ True) ∧ (¬PrL (wW w ((1 : Int) * shP (a.tmod (↑w.m.n : Int))).toNat) z < PrL w z → (0 : Nat) < (1 : Nat) ∧ (0 : Nat) < (1 : Nat) ∧ (PrH (wW w ((1 : Int) * shP
 (a.tmod (↑w.m.n : Int))).toNat) z < PrH w z → false = true ∧ True) ∧ (¬PrH (wW w ((1 : Int) * shP (a.tmod (↑w.m.n : Int))).toNat) z < PrH w z → (0 : Nat) < (1 : Nat) ∧ ((-9223372036854775808 : Int) ≤ b ∧ b ≤ (9223372036854775807 : Int)) ∧ ((-9223372036854775808 : Int) ≤ w.1 + b ∧ w.1 + b ≤ (9223372036854775807 : Int)) ∧ (0 : Nat) < (1 : Nat) ∧ ((-9223372036854775808 : Int) ≤ b ∧ b ≤ (9223372036854775807 : Int)) ∧ ((-9223372036854775808 : Int) ≤ w.2 + b ∧ w.2 + b ≤ (9223372036854775807 : Int)) ∧ (0 : Nat) < (1 : Nat) ∧ (0 : Nat) + w.j.1 ≤ w.j.1 ∧ (∀ (i : Nat), i < w.j.1 → (5 : Nat) = (5 : Nat) ∧ True ∧ True ∧ True ∧ True ∧ True ∧ True) ∧ (0 : Nat) + w.m.1 ≤ w.m.1 ∧ (∀ (i : Nat), i < w.m.1 → (4 : Nat) = (4 : Nat) ∧ True ∧ True ∧ True ∧ True ∧ True) ∧ SV.agg [SV.int IntKind.i64 w.s0, SV.int IntKind.i64 w.s1, SV.lst (5 : Nat) w.j.n fun (i : Nat) => SV.agg [i6 ((jnM w a b).nl (i + (0 : Nat))), i6 ((jnM w a b).nh (i + (0 : Nat))), i6 ((jnM w a b).le (i + (0 : Nat))), i6 ((jnM w a b).mo (i + (0 : Nat))), i6 ((jnM w a b).go (i + (0 : Nat)))], SV.lst (4 : Nat) w.m.n fun (i : Nat) => SV.agg [i6 ((mnM w a b).fr (i + (0 : Nat))), i6 ((mnM w a b).dr (i + (0 : Nat))), i6 ((mnM w a b).va (i + (0 : Nat))), i6 ((mnM w a b).co (i + (0 : Nat)))]] = (wOf (SV.agg [SV.int IntKind.i64 w.s0, SV.int IntKind.i64 w.s1, SV.lst (5 : Nat) w.j.n fun (i : Nat) => SV.agg [i6 ((jnM w a b).nl (i + (0 : Nat))), i6 ((jnM w a b).nh (i + (0 : Nat))), i6 ((jnM w a b).le (i + (0 : Nat))), i6 ((jnM w a b).mo (i + (0 : Nat))), i6 ((jnM w a b).go (i + (0 : Nat)))], SV.lst (4 : Nat) w.m.n fun (i : Nat) => SV.agg [i6 ((mnM w a b).fr (i + (0 : Nat))), i6 ((mnM w a b).dr (i + (0 : Nat))), i6 ((mnM w a b).va (i + (0 : Nat))), i6 ((mnM w a b).co (i + (0 : Nat)))]])).sv ∧ (0 : Nat) < (1 : Nat) ∧ (∀ (i : Nat), i <
 w.j.1 → True ∧ True ∧ True ∧ True ∧ True ∧ True) ∧ (∀ (i : Nat), i < w.m.1 → True ∧ True ∧ True ∧ True ∧ True) ∧ SV.agg [SV.int IntKind.i64 (min (1099511627776 : Int) (w.s0 + b)), SV.int IntKind.i64 (min (1099511627776 : Int) (w.s1 + b)), w.j.sv, w.m.sv] = (wOf (SV.agg [SV.int IntKind.i64 (min (1099511627776 : Int) (w.s0 + b)), SV.int IntKind.i64 (min (1099511627776 : Int) (w.s1 + b)), w.j.sv, w.m.sv])).sv ∧ (¬PrE (wOf (SV.agg [SV.int IntKind.i64 w.s0, SV.int IntKind.i64 w.s1, SV.lst (5 : Nat) w.j.n fun (i : Nat) => SV.agg [i6 ((jnM w a b).nl (i + (0 : Nat))), i6 ((jnM w a b).nh (i + (0 : Nat))), i6 ((jnM w a b).le (i + (0 : Nat))), i6 ((jnM w a b).mo (i + (0 : Nat))), i6 ((jnM w a b).go (i + (0 : Nat)))], SV.lst (4 : Nat) w.m.n fun (i : Nat) => SV.agg [i6 ((mnM w a b).fr (i + (0 : Nat))), i6 ((mnM w a b).dr (i + (0 : Nat))), i6 ((mnM w a b).va (i + (0 : Nat))), i6 ((mnM w a b).co (i + (0 : Nat)))]])) z = (0 : Int) → false = true ∧ True) ∧ (¬¬PrE (wOf (SV.agg [SV.int IntKind.i64 w.s0, SV.int IntKind.i64 w.s1, SV.lst (5 : Nat) w.j.n fun (i : Nat) => SV.agg [i6 ((jnM w a b).nl (i + (0 : Nat))), i6 ((jnM w a b).nh (i + (0 : Nat))), i6 ((jnM w a b).le (i + (0 : Nat))), i6 ((jnM w a b).mo (i + (0 : Nat))), i6 ((jnM w a b).go (i + (0 : Nat)))], SV.lst (4 : Nat) w.m.n fun (i : Nat) => SV.agg [i6 ((mnM w a b).fr (i + (0 : Nat))), i6 ((mnM w a b).dr (i + (0 : Nat))), i6 ((mnM w a b).va (i + (0 : Nat))), i6 ((mnM w a b).co (i + (0 : Nat)))]])) z = (0 : Int) → (¬PrE (wOf (SV.agg [SV.int IntKind.i64 (min (1099511627776 : Int) (w.s0 + b)), SV.int IntKind.i64 (min (1099511627776 : Int) (w.s1 + b)), w.j.sv, w.m.sv])) z = (0 : Int) → false = true ∧ True) ∧ (¬¬PrE (wOf (SV.agg [SV.int IntKind.i64 (min (1099511627776 : Int) (w.s0 + b)), SV.int IntKind.i64 (min (1099511627776 : Int)
 (w.s1 + b)), w.j.sv, w.m.sv])) z = (0 : Int) → (0 : Nat) < (1 : Nat) ∧ (0 : Nat) < (1 : Nat) ∧ (PrL w z < PrL (wOf (SV.agg [SV.int IntKind.i64 w.s0, SV.int IntKind.i64 w.s1, SV.lst (5 : Nat) w.j.n fun (i : Nat) => SV.agg [i6 ((jnM w a b).nl (i + (0 : Nat))), i6 ((jnM w a b).nh (i + (0 : Nat))), i6 ((jnM w a b).le (i + (0 : Nat))), i6 ((jnM w a b).mo (i + (0 : Nat))), i6 ((jnM w a b).go (i + (0 : Nat)))], SV.lst (4 : Nat) w.m.n fun (i : Nat) => SV.agg [i6 ((mnM w a b).fr (i + (0 : Nat))), i6 ((mnM w a b).dr (i + (0 : Nat))), i6 ((mnM w a b).va (i + (0 : Nat))), i6 ((mnM w a b).co (i + (0 : Nat)))]])) z → false = true ∧ True) ∧ (¬PrL w z < PrL (wOf (SV.agg [SV.int IntKind.i64 w.s0, SV.int IntKind.i64 w.s1, SV.lst (5 : Nat) w.j.n fun (i : Nat) => SV.agg [i6 ((jnM w a b).nl (i + (0 : Nat))), i6 ((jnM w a b).nh (i + (0 : Nat))), i6 ((jnM w a b).le (i + (0 : Nat))), i6 ((jnM w a b).mo (i + (0 : Nat))), i6 ((jnM w a b).go (i + (0 : Nat)))], SV.lst (4 : Nat) w.m.n fun (i : Nat) => SV.agg [i6 ((mnM w a b).fr (i + (0 : Nat))), i6 ((mnM w a b).dr (i + (0 : Nat))), i6 ((mnM w a b).va (i + (0 : Nat))), i6 ((mnM w a b).co (i + (0 : Nat)))]])) z → (0 : Nat) < (1 : Nat) ∧ (0 : Nat) < (1 : Nat) ∧ (PrH w z < PrH (wOf (SV.agg [SV.int IntKind.i64 w.s0, SV.int IntKind.i64 w.s1, SV.lst (5 : Nat) w.j.n fun (i : Nat) => SV.agg [i6 ((jnM w a b).nl (i + (0 : Nat))), i6 ((jnM w a b).nh (i + (0 : Nat))), i6 ((jnM w a b).le (i + (0 : Nat))), i6 ((jnM w a b).mo (i + (0 : Nat))), i6 ((jnM w a b).go (i + (0 : Nat)))], SV.lst (4 : Nat) w.m.n fun (i : Nat) => SV.agg [i6 ((mnM w a b).fr (i + (0 : Nat))), i6 ((mnM w a b).dr (i + (0 : Nat))), i6 ((mnM w a b).va (i + (0 : Nat))), i6 ((mnM w a b).co (i + (0 : Nat)))]])) z → false = true ∧ True) ∧ (¬PrH w z < PrH (wOf (SV.agg [SV.int IntKind.i64 w.s0,
 SV.int IntKind.i64 w.s1, SV.lst (5 : Nat) w.j.n fun (i : Nat) => SV.agg [i6 ((jnM w a b).nl (i + (0 : Nat))), i6 ((jnM w a b).nh (i + (0 : Nat))), i6 ((jnM w a b).le (i + (0 : Nat))), i6 ((jnM w a b).mo (i + (0 : Nat))), i6 ((jnM w a b).go (i + (0 : Nat)))], SV.lst (4 : Nat) w.m.n fun (i : Nat) => SV.agg [i6 ((mnM w a b).fr (i + (0 : Nat))), i6 ((mnM w a b).dr (i + (0 : Nat))), i6 ((mnM w a b).va (i + (0 : Nat))), i6 ((mnM w a b).co (i + (0 : Nat)))]])) z → (0 : Nat) < (1 : Nat) ∧ (0 : Nat) < (1 : Nat) ∧ (PrL (wOf (SV.agg [SV.int IntKind.i64 (min (1099511627776 : Int) (w.s0 + b)), SV.int IntKind.i64 (min (1099511627776 : Int) (w.s1 + b)), w.j.sv, w.m.sv])) z < PrL w z → false = true ∧ True) ∧ (¬PrL (wOf (SV.agg [SV.int IntKind.i64 (min (1099511627776 : Int) (w.s0 + b)), SV.int IntKind.i64 (min (1099511627776 : Int) (w.s1 + b)), w.j.sv, w.m.sv])) z < PrL w z → (0 : Nat) < (1 : Nat) ∧ (0 : Nat) < (1 : Nat) ∧ (PrH (wOf (SV.agg [SV.int IntKind.i64 (min (1099511627776 : Int) (w.s0 + b)), SV.int IntKind.i64 (min (1099511627776 : Int) (w.s1 + b)), w.j.sv, w.m.sv])) z < PrH w z → false = true ∧ True) ∧ (¬PrH (wOf (SV.agg [SV.int IntKind.i64 (min (1099511627776 : Int) (w.s0 + b)), SV.int IntKind.i64 (min (1099511627776 : Int) (w.s1 + b)), w.j.sv, w.m.sv])) z < PrH w z → (0 : Nat) < (1 : Nat) ∧ (0 : Nat) < (1 : Nat) ∧ (∀ (i : Nat), i < w.j.1 → true = true) ∧ (0 : Nat) = (0 : Nat) ∧ (0 : Nat) = (0 : Nat) ∧ (∀ (i : Nat), true = true) ∧ ((0 : Nat) + w.j.1) * (40 : Nat) ≤ (140737488355328 : Nat) ∧ (0 : Nat) + w.j.1 ≤ (4611686018427387904 : Nat) ∧ (∃ (z_5 : Nat), (z_5 ≤ w.j.1 ∧ okNet w) ∧ z = z ∧ b = b ∧ (0 : Nat) = (0 : Nat) ∧ (0 : Nat) = (0 : Nat) ∧ (0 : Nat) = (0 : Nat) ∧ (0 : Nat) = (0 : Nat) ∧ (0 : Nat) = (0 : Nat) ∧ (0 : Nat) = (0 : Nat) ∧ (0 : Int) = (↑z_5 : Int) ∧ w.1 =
 w.1 ∧ w.2 = w.2 ∧ w.j.1 = w.j.1 ∧ (∀ (i : Nat), i < w.j.1 → (SV.agg [i6 (w.j.nl i), i6 (w.j.nh i), i6 (w.j.le i), i6 (w.j.mo i), i6 (w.j.go i)]).den = (SV.agg [i6 (w.j.nl i), i6 (w.j.nh i), i6 (w.j.le i), i6 (w.j.mo i), i6 (w.j.go i)]).den ∧ True ∧ True ∧ True ∧ True ∧ True ∧ True) ∧ w.m.1 = w.m.1 ∧ (∀ (i : Nat), i < w.m.1 → (SV.agg [i6 (w.m.fr i), i6 (w.m.dr i), i6 (w.m.va i), i6 (w.m.co i)]).den = (SV.agg [i6 (w.m.fr i), i6 (w.m.dr i), i6 (w.m.va i), i6 (w.m.co i)]).den ∧ True ∧ True ∧ True ∧ True ∧ True) ∧ PrL w z = PrL w z ∧ PrH w z = PrH w z ∧ w.1 = w.1 ∧ w.2 = w.2 ∧ (0 : Nat) = (0 : Nat) ∧ (0 : Nat) + w.j.1 = w.j.1 ∧ w.m.1 = w.m.1 ∧ (∀ (i : Nat), i < w.m.1 → (SV.agg [i6 (w.m.fr i), i6 (w.m.dr i), i6 (w.m.va i), i6 (w.m.co i)]).den = (SV.agg [i6 (w.m.fr i), i6 (w.m.dr i), i6 (w.m.va i), i6 (w.m.co i)]).den ∧ True ∧ True ∧ True ∧ True ∧ True) ∧ w.j.1 = (0 : Nat) + w.j.1 ∧ (∀ (i : Nat), i < w.j.1 → (5 : Nat) = (5 : Nat) ∧ (if i < (0 : Nat) then (0 : Int) else w.j.2 (i - (0 : Nat))) = cuA w z_5 i (0 : Int) (w.j.2 i) ∧ (if i < (0 : Nat) then (0 : Int) else w.j.3 (i - (0 : Nat))) = cuA w z_5 i b (w.j.3 i) ∧ (if i < (0 : Nat) then (0 : Int) else w.j.4 (i - (0 : Nat))) = w.j.4 i ∧ (if i < (0 : Nat) then (0 : Int) else w.j.5 (i - (0 : Nat))) = w.j.5 i ∧ (if i < (0 : Nat) then (0 : Int) else w.j.6 (i - (0 : Nat))) = cuA w z_5 i b (w.j.6 i) ∧ True) ∧ True) ∧ ∀ (z_5 : Nat), z_5 ≤ w.j.1 ∧ okNet w → (0 : Nat) < (1 : Nat) ∧ ((↑z_5 : Int) < (↑w.j.1 : Int) → (0 : Nat) < (1 : Nat) ∧ (∀ (i : Nat), i < w.j.1 → True ∧ True ∧ True ∧ True ∧ True ∧ True) ∧ (∀ (i : Nat), i < w.m.1 → True ∧ True ∧ True ∧ True ∧ True) ∧ w.sv = w.sv ∧ (¬chkN w (↑z_5 : Int) = (0 : Int) → false = true ∧ True) ∧ (¬¬chkN w (↑z_5 : Int) = (0 : Int) → (FedV w (↑z_5 : Int) = (0 : Int) → (True ∧ True ∧ True ∧
 True ∧ (0 : Nat) < (1 : Nat) ∧ True ∧ True ∧ True ∧ True ∧ True ∧ True ∧ (0 : Nat) < (1 : Nat) ∧ True ∧ True ∧ True ∧ True ∧ True ∧ True ∧ ((-9223372036854775808 : Int) ≤ b ∧ b ≤ (9223372036854775807 : Int)) ∧ True ∧ True ∧ True ∧ True ∧ True ∧ True ∧ ((-9223372036854775808 : Int) ≤ b ∧ b ≤ (9223372036854775807 : Int)) ∧ (True ∧ True ∧ (0 : Int) ≤ (↑z_5 : Int) ∧ (↑z_5 : Int) < (↑w.j.1 : Int) ∧ True ∧ True ∧ True ∧ True ∧ (0 : Nat) + (2 : Nat) ≤ (5 : Nat) ∧ (0 : Nat) + (↑z_5 : Int).toNat < w.j.1 ∧ (∀ (i' : Nat), true = true) ∧ (True ∧ True ∧ (0 : Int) ≤ (↑z_5 : Int) ∧ (↑z_5 : Int) < (↑w.j.1 : Int) ∧ True ∧ True ∧ True ∧ True ∧ (4 : Nat) + (1 : Nat) ≤ (5 : Nat) ∧ (0 : Nat) + (↑z_5 : Int).toNat < w.j.1 ∧ (∀ (i' : Nat), true = true) ∧ (okC w (↑z_5 : Int).toNat ∧ (↑z_5 : Int).toNat = (↑z_5 : Int).toNat) ∧ z = z ∧ b = b ∧ (0 : Nat) = (0 : Nat) ∧ (0 : Nat) = (0 : Nat) ∧ (0 : Nat) = (0 : Nat) ∧ (0 : Nat) = (0 : Nat) ∧ (0 : Nat) = (0 : Nat) ∧ (0 : Nat) = (0 : Nat) ∧ (↑z_5 : Int) = (↑(↑z_5 : Int).toNat : Int) ∧ w.1 = w.1 ∧ w.2 = w.2 ∧ w.j.1 = w.j.1 ∧ (∀ (i : Nat), i < w.j.1 → (SV.agg [i6 (w.j.nl i), i6 (w.j.nh i), i6 (w.j.le i), i6 (w.j.mo i), i6 (w.j.go i)]).den = (SV.agg [i6 (w.j.nl i), i6 (w.j.nh i), i6 (w.j.le i), i6 (w.j.mo i), i6 (w.j.go i)]).den ∧ True ∧ True ∧ True ∧ True ∧ True ∧ True) ∧ w.m.1 = w.m.1 ∧ (∀ (i : Nat), i < w.m.1 → (SV.agg [i6 (w.m.fr i), i6 (w.m.dr i), i6 (w.m.va i), i6 (w.m.co i)]).den = (SV.agg [i6 (w.m.fr i), i6 (w.m.dr i), i6 (w.m.va i), i6 (w.m.co i)]).den ∧ True ∧ True ∧ True ∧ True ∧ True) ∧ PrL w z = PrL w z ∧ PrH w z = PrH w z ∧ w.1 = w.1 ∧ w.2 = w.2 ∧ (0 : Nat) = (0 : Nat) ∧ w.j.1 = w.j.1 ∧ w.m.1 = w.m.1 ∧ (∀ (i : Nat), i < w.m.1 → (SV.agg [i6 (w.m.fr i), i6 (w.m.dr i), i6 (w.m.va i), i6 (w.m.co i)]).den = (SV.agg [i6 (w.m.fr i), i6 (w.m.dr i),
 i6 (w.m.va i), i6 (w.m.co i)]).den ∧ True ∧ True ∧ True ∧ True ∧ True) ∧ w.j.1 = w.j.1 ∧ (∀ (i : Nat), i < w.j.1 → (5 : Nat) = (5 : Nat) ∧ (if i = (0 : Nat) + (↑z_5 : Int).toNat then if i = (0 : Nat) + (↑z_5 : Int).toNat then (0 : Int) else cuA w z_5 i (0 : Int) (w.j.2 i) else if i = (0 : Nat) + (↑z_5 : Int).toNat then (0 : Int) else cuA w z_5 i (0 : Int) (w.j.2 i)) = cuA w ((↑z_5 : Int).toNat + (1 : Nat)) i (0 : Int) (w.j.2 i) ∧ (if i = (0 : Nat) + (↑z_5 : Int).toNat then if i = (0 : Nat) + (↑z_5 : Int).toNat then b else cuA w z_5 i b (w.j.3 i) else if i = (0 : Nat) + (↑z_5 : Int).toNat then b else cuA w z_5 i b (w.j.3 i)) = cuA w ((↑z_5 : Int).toNat + (1 : Nat)) i b (w.j.3 i) ∧ (if i = (0 : Nat) + (↑z_5 : Int).toNat then if i = (0 : Nat) + (↑z_5 : Int).toNat then w.j.4 i else w.j.4 i else if i = (0 : Nat) + (↑z_5 : Int).toNat then w.j.4 i else w.j.4 i) = w.j.4 i ∧ (if i = (0 : Nat) + (↑z_5 : Int).toNat then if i = (0 : Nat) + (↑z_5 : Int).toNat then w.j.5 i else w.j.5 i else if i = (0 : Nat) + (↑z_5 : Int).toNat then w.j.5 i else w.j.5 i) = w.j.5 i ∧ (if i = (0 : Nat) + (↑z_5 : Int).toNat then b else if i = (0 : Nat) + (↑z_5 : Int).toNat then cuA w z_5 i b (w.j.6 i) else cuA w z_5 i b (w.j.6 i)) = cuA w ((↑z_5 : Int).toNat + (1 : Nat)) i b (w.j.6 i) ∧ True) ∧ True) ∧ True) ∧ True) ∧ ∀ (z_6 : Nat), okC w z_6 ∧ z_6 = (↑z_5 : Int).toNat → ((-9223372036854775808 : Int) ≤ (↑z_6 : Int) + (1 : Int) ∧ (↑z_6 : Int) + (1 : Int) ≤ (9223372036854775807 : Int)) ∧ ∃ (z_7 : Nat), (z_7 ≤ w.j.1 ∧ okNet w) ∧ w.j.1 - z_7 < w.j.1 - z_5 ∧ z = z ∧ b = b ∧ (0 : Nat) = (0 : Nat) ∧ (0 : Nat) = (0 : Nat) ∧ (0 : Nat) = (0 : Nat) ∧ (0 : Nat) = (0 : Nat) ∧ (0 : Nat) = (0 : Nat) ∧ (0 : Nat) = (0 : Nat) ∧ (↑z_6 : Int) + (1 : Int) = (↑z_7 : Int) ∧ w.1 = w.1 ∧ w.2 = w.2 ∧ w.j.1 = w.j.1 ∧ (∀ (i :
 Nat), i < w.j.1 → (SV.agg [i6 (w.j.nl i), i6 (w.j.nh i), i6 (w.j.le i), i6 (w.j.mo i), i6 (w.j.go i)]).den = (SV.agg [i6 (w.j.nl i), i6 (w.j.nh i), i6 (w.j.le i), i6 (w.j.mo i), i6 (w.j.go i)]).den ∧ True ∧ True ∧ True ∧ True ∧ True ∧ True) ∧ w.m.1 = w.m.1 ∧ (∀ (i : Nat), i < w.m.1 → (SV.agg [i6 (w.m.fr i), i6 (w.m.dr i), i6 (w.m.va i), i6 (w.m.co i)]).den = (SV.agg [i6 (w.m.fr i), i6 (w.m.dr i), i6 (w.m.va i), i6 (w.m.co i)]).den ∧ True ∧ True ∧ True ∧ True ∧ True) ∧ PrL w z = PrL w z ∧ PrH w z = PrH w z ∧ w.1 = w.1 ∧ w.2 = w.2 ∧ (0 : Nat) = (0 : Nat) ∧ w.j.1 = w.j.1 ∧ w.m.1 = w.m.1 ∧ (∀ (i : Nat), i < w.m.1 → (SV.agg [i6 (w.m.fr i), i6 (w.m.dr i), i6 (w.m.va i), i6 (w.m.co i)]).den = (SV.agg [i6 (w.m.fr i), i6 (w.m.dr i), i6 (w.m.va i), i6 (w.m.co i)]).den ∧ True ∧ True ∧ True ∧ True ∧ True) ∧ w.j.1 = w.j.1 ∧ (∀ (i : Nat), i < w.j.1 → (5 : Nat) = (5 : Nat) ∧ cuA w (z_6 + (1 : Nat)) i (0 : Int) (w.j.2 i) = cuA w z_7 i (0 : Int) (w.j.2 i) ∧ cuA w (z_6 + (1 : Nat)) i b (w.j.3 i) = cuA w z_7 i b (w.j.3 i) ∧ w.j.4 i = w.j.4 i ∧ w.j.5 i = w.j.5 i ∧ cuA w (z_6 + (1 : Nat)) i b (w.j.6 i) = cuA w z_7 i b (w.j.6 i) ∧ True) ∧ True) ∧ (¬FedV w (↑z_5 : Int) = (0 : Int) → ((-9223372036854775808 : Int) ≤ (↑z_5 : Int) + (1 : Int) ∧ (↑z_5 : Int) + (1 : Int) ≤ (9223372036854775807 : Int)) ∧ ∃ (z_6 : Nat), (z_6 ≤ w.j.1 ∧ okNet w) ∧ w.j.1 - z_6 < w.j.1 - z_5 ∧ z = z ∧ b = b ∧ (0 : Nat) = (0 : Nat) ∧ (0 : Nat) = (0 : Nat) ∧ (0 : Nat) = (0 : Nat) ∧ (0 : Nat) = (0 : Nat) ∧ (0 : Nat) = (0 : Nat) ∧ (0 : Nat) = (0 : Nat) ∧ (↑z_5 : Int) + (1 : Int) = (↑z_6 : Int) ∧ w.1 = w.1 ∧ w.2 = w.2 ∧ w.j.1 = w.j.1 ∧ (∀ (i : Nat), i < w.j.1 → (SV.agg [i6 (w.j.nl i), i6 (w.j.nh i), i6 (w.j.le i), i6 (w.j.mo i), i6 (w.j.go i)]).den = (SV.agg [i6 (w.j.nl i), i6 (w.j.nh i), i6 (w.j.le i), i6 (w.j.mo i), i6
 (w.j.go i)]).den ∧ True ∧ True ∧ True ∧ True ∧ True ∧ True) ∧ w.m.1 = w.m.1 ∧ (∀ (i : Nat), i < w.m.1 → (SV.agg [i6 (w.m.fr i), i6 (w.m.dr i), i6 (w.m.va i), i6 (w.m.co i)]).den = (SV.agg [i6 (w.m.fr i), i6 (w.m.dr i), i6 (w.m.va i), i6 (w.m.co i)]).den ∧ True ∧ True ∧ True ∧ True ∧ True) ∧ PrL w z = PrL w z ∧ PrH w z = PrH w z ∧ w.1 = w.1 ∧ w.2 = w.2 ∧ (0 : Nat) = (0 : Nat) ∧ w.j.1 = w.j.1 ∧ w.m.1 = w.m.1 ∧ (∀ (i : Nat), i < w.m.1 → (SV.agg [i6 (w.m.fr i), i6 (w.m.dr i), i6 (w.m.va i), i6 (w.m.co i)]).den = (SV.agg [i6 (w.m.fr i), i6 (w.m.dr i), i6 (w.m.va i), i6 (w.m.co i)]).den ∧ True ∧ True ∧ True ∧ True ∧ True) ∧ w.j.1 = w.j.1 ∧ (∀ (i : Nat), i < w.j.1 → (5 : Nat) = (5 : Nat) ∧ cuA w z_5 i (0 : Int) (w.j.2 i) = cuA w z_6 i (0 : Int) (w.j.2 i) ∧ cuA w z_5 i b (w.j.3 i) = cuA w z_6 i b (w.j.3 i) ∧ w.j.4 i = w.j.4 i ∧ w.j.5 i = w.j.5 i ∧ cuA w z_5 i b (w.j.6 i) = cuA w z_6 i b (w.j.6 i) ∧ True) ∧ True))) ∧ (¬(↑z_5 : Int) < (↑w.j.1 : Int) → (0 : Nat) < (1 : Nat) ∧ (0 : Nat) + w.j.1 ≤ w.j.1 ∧ (∀ (i : Nat), i < w.j.1 → (5 : Nat) = (5 : Nat) ∧ True ∧ True ∧ True ∧ True ∧ True ∧ True) ∧ (∀ (i : Nat), i < w.m.1 → True ∧ True ∧ True ∧ True ∧ True) ∧ SV.agg [SV.int IntKind.i64 w.s0, SV.int IntKind.i64 w.s1, SV.lst (5 : Nat) w.j.n fun (i : Nat) => SV.agg [i6 ((jnC w b z_5).nl (i + (0 : Nat))), i6 ((jnC w b z_5).nh (i + (0 : Nat))), i6 ((jnC w b z_5).le (i + (0 : Nat))), i6 ((jnC w b z_5).mo (i + (0 : Nat))), i6 ((jnC w b z_5).go (i + (0 : Nat)))], w.m.sv] = (wOf (SV.agg [SV.int IntKind.i64 w.s0, SV.int IntKind.i64 w.s1, SV.lst (5 : Nat) w.j.n fun (i : Nat) => SV.agg [i6 ((jnC w b z_5).nl (i + (0 : Nat))), i6 ((jnC w b z_5).nh (i + (0 : Nat))), i6 ((jnC w b z_5).le (i + (0 : Nat))), i6 ((jnC w b z_5).mo (i + (0 : Nat))), i6 ((jnC w b z_5).go (i + (0 : Nat)))], w.m.sv])).sv ∧
 (0 : Nat) < (1 : Nat) ∧ (0 : Nat) < (1 : Nat) ∧ (PrL (wOf (SV.agg [SV.int IntKind.i64 w.s0, SV.int IntKind.i64 w.s1, SV.lst (5 : Nat) w.j.n fun (i : Nat) => SV.agg [i6 ((jnC w b z_5).nl (i + (0 : Nat))), i6 ((jnC w b z_5).nh (i + (0 : Nat))), i6 ((jnC w b z_5).le (i + (0 : Nat))), i6 ((jnC w b z_5).mo (i + (0 : Nat))), i6 ((jnC w b z_5).go (i + (0 : Nat)))], w.m.sv])) z = PrL w z ∧ PrH (wOf (SV.agg [SV.int IntKind.i64 w.s0, SV.int IntKind.i64 w.s1, SV.lst (5 : Nat) w.j.n fun (i : Nat) => SV.agg [i6 ((jnC w b z_5).nl (i + (0 : Nat))), i6 ((jnC w b z_5).nh (i + (0 : Nat))), i6 ((jnC w b z_5).le (i + (0 : Nat))), i6 ((jnC w b z_5).mo (i + (0 : Nat))), i6 ((jnC w b z_5).go (i + (0 : Nat)))], w.m.sv])) z = PrH w z → (PrE (wOf (SV.agg [SV.int IntKind.i64 w.s0, SV.int IntKind.i64 w.s1, SV.lst (5 : Nat) w.j.n fun (i : Nat) => SV.agg [i6 ((jnC w b z_5).nl (i + (0 : Nat))), i6 ((jnC w b z_5).nh (i + (0 : Nat))), i6 ((jnC w b z_5).le (i + (0 : Nat))), i6 ((jnC w b z_5).mo (i + (0 : Nat))), i6 ((jnC w b z_5).go (i + (0 : Nat)))], w.m.sv])) z = (0 : Int) → true = true ∧ True) ∧ (¬PrE (wOf (SV.agg [SV.int IntKind.i64 w.s0, SV.int IntKind.i64 w.s1, SV.lst (5 : Nat) w.j.n fun (i : Nat) => SV.agg [i6 ((jnC w b z_5).nl (i + (0 : Nat))), i6 ((jnC w b z_5).nh (i + (0 : Nat))), i6 ((jnC w b z_5).le (i + (0 : Nat))), i6 ((jnC w b z_5).mo (i + (0 : Nat))), i6 ((jnC w b z_5).go (i + (0 : Nat)))], w.m.sv])) z = (0 : Int) → false = true ∧ True)) ∧ (¬(PrL (wOf (SV.agg [SV.int IntKind.i64 w.s0, SV.int IntKind.i64 w.s1, SV.lst (5 : Nat) w.j.n fun (i : Nat) => SV.agg [i6 ((jnC w b z_5).nl (i + (0 : Nat))), i6 ((jnC w b z_5).nh (i + (0 : Nat))), i6 ((jnC w b z_5).le (i + (0 : Nat))), i6 ((jnC w b z_5).mo (i + (0 : Nat))), i6 ((jnC w b z_5).go (i + (0 : Nat)))], w.m.sv])) z = PrL w z ∧ PrH (wOf
 (SV.agg [SV.int IntKind.i64 w.s0, SV.int IntKind.i64 w.s1, SV.lst (5 : Nat) w.j.n fun (i : Nat) => SV.agg [i6 ((jnC w b z_5).nl (i + (0 : Nat))), i6 ((jnC w b z_5).nh (i + (0 : Nat))), i6 ((jnC w b z_5).le (i + (0 : Nat))), i6 ((jnC w b z_5).mo (i + (0 : Nat))), i6 ((jnC w b z_5).go (i + (0 : Nat)))], w.m.sv])) z = PrH w z) → false = true ∧ True)))))))))))) ∧ (¬(0 : Int) < (↑w.m.1 : Int) → (0 : Nat) < (1 : Nat) ∧ ((-9223372036854775808 : Int) ≤ b ∧ b ≤ (9223372036854775807 : Int)) ∧ ((-9223372036854775808 : Int) ≤ w.1 + b ∧ w.1 + b ≤ (9223372036854775807 : Int)) ∧ (0 : Nat) < (1 : Nat) ∧ ((-9223372036854775808 : Int) ≤ b ∧ b ≤ (9223372036854775807 : Int)) ∧ ((-9223372036854775808 : Int) ≤ w.2 + b ∧ w.2 + b ≤ (9223372036854775807 : Int)) ∧ (0 : Nat) < (1 : Nat) ∧ (0 : Nat) + w.j.1 ≤ w.j.1 ∧ (∀ (i : Nat), i < w.j.1 → (5 : Nat) = (5 : Nat) ∧ True ∧ True ∧ True ∧ True ∧ True ∧ True) ∧ (0 : Nat) + w.m.1 ≤ w.m.1 ∧ (∀ (i : Nat), i < w.m.1 → (4 : Nat) = (4 : Nat) ∧ True ∧ True ∧ True ∧ True ∧ True) ∧ SV.agg [SV.int IntKind.i64 w.s0, SV.int IntKind.i64 w.s1, SV.lst (5 : Nat) w.j.n fun (i : Nat) => SV.agg [i6 ((jnM w a b).nl (i + (0 : Nat))), i6 ((jnM w a b).nh (i + (0 : Nat))), i6 ((jnM w a b).le (i + (0 : Nat))), i6 ((jnM w a b).mo (i + (0 : Nat))), i6 ((jnM w a b).go (i + (0 : Nat)))], SV.lst (4 : Nat) w.m.n fun (i : Nat) => SV.agg [i6 (w.m.fr (i + (0 : Nat))), i6 (w.m.dr (i + (0 : Nat))), i6 (w.m.va (i + (0 : Nat))), i6 (w.m.co (i + (0 : Nat)))]] = (wOf (SV.agg [SV.int IntKind.i64 w.s0, SV.int IntKind.i64 w.s1, SV.lst (5 : Nat) w.j.n fun (i : Nat) => SV.agg [i6 ((jnM w a b).nl (i + (0 : Nat))), i6 ((jnM w a b).nh (i + (0 : Nat))), i6 ((jnM w a b).le (i + (0 : Nat))), i6 ((jnM w a b).mo (i + (0 : Nat))), i6 ((jnM w a b).go (i + (0 : Nat)))], SV.lst (4 : Nat) w.m.n fun (i :
 Nat) => SV.agg [i6 (w.m.fr (i + (0 : Nat))), i6 (w.m.dr (i + (0 : Nat))), i6 (w.m.va (i + (0 : Nat))), i6 (w.m.co (i + (0 : Nat)))]])).sv ∧ (0 : Nat) < (1 : Nat) ∧ (∀ (i : Nat), i < w.j.1 → True ∧ True ∧ True ∧ True ∧ True ∧ True) ∧ (∀ (i : Nat), i < w.m.1 → True ∧ True ∧ True ∧ True ∧ True) ∧ SV.agg [SV.int IntKind.i64 (min (1099511627776 : Int) (w.s0 + b)), SV.int IntKind.i64 (min (1099511627776 : Int) (w.s1 + b)), w.j.sv, w.m.sv] = (wOf (SV.agg [SV.int IntKind.i64 (min (1099511627776 : Int) (w.s0 + b)), SV.int IntKind.i64 (min (1099511627776 : Int) (w.s1 + b)), w.j.sv, w.m.sv])).sv ∧ (¬PrE (wOf (SV.agg [SV.int IntKind.i64 w.s0, SV.int IntKind.i64 w.s1, SV.lst (5 : Nat) w.j.n fun (i : Nat) => SV.agg [i6 ((jnM w a b).nl (i + (0 : Nat))), i6 ((jnM w a b).nh (i + (0 : Nat))), i6 ((jnM w a b).le (i + (0 : Nat))), i6 ((jnM w a b).mo (i + (0 : Nat))), i6 ((jnM w a b).go (i + (0 : Nat)))], SV.lst (4 : Nat) w.m.n fun (i : Nat) => SV.agg [i6 (w.m.fr (i + (0 : Nat))), i6 (w.m.dr (i + (0 : Nat))), i6 (w.m.va (i + (0 : Nat))), i6 (w.m.co (i + (0 : Nat)))]])) z = (0 : Int) → false = true ∧ True) ∧ (¬¬PrE (wOf (SV.agg [SV.int IntKind.i64 w.s0, SV.int IntKind.i64 w.s1, SV.lst (5 : Nat) w.j.n fun (i : Nat) => SV.agg [i6 ((jnM w a b).nl (i + (0 : Nat))), i6 ((jnM w a b).nh (i + (0 : Nat))), i6 ((jnM w a b).le (i + (0 : Nat))), i6 ((jnM w a b).mo (i + (0 : Nat))), i6 ((jnM w a b).go (i + (0 : Nat)))], SV.lst (4 : Nat) w.m.n fun (i : Nat) => SV.agg [i6 (w.m.fr (i + (0 : Nat))), i6 (w.m.dr (i + (0 : Nat))), i6 (w.m.va (i + (0 : Nat))), i6 (w.m.co (i + (0 : Nat)))]])) z = (0 : Int) → (¬PrE (wOf (SV.agg [SV.int IntKind.i64 (min (1099511627776 : Int) (w.s0 + b)), SV.int IntKind.i64 (min (1099511627776 : Int) (w.s1 + b)), w.j.sv, w.m.sv])) z = (0 : Int) → false = true ∧ True) ∧ (¬¬PrE (wOf
 (SV.agg [SV.int IntKind.i64 (min (1099511627776 : Int) (w.s0 + b)), SV.int IntKind.i64 (min (1099511627776 : Int) (w.s1 + b)), w.j.sv, w.m.sv])) z = (0 : Int) → (0 : Nat) < (1 : Nat) ∧ (0 : Nat) < (1 : Nat) ∧ (PrL w z < PrL (wOf (SV.agg [SV.int IntKind.i64 w.s0, SV.int IntKind.i64 w.s1, SV.lst (5 : Nat) w.j.n fun (i : Nat) => SV.agg [i6 ((jnM w a b).nl (i + (0 : Nat))), i6 ((jnM w a b).nh (i + (0 : Nat))), i6 ((jnM w a b).le (i + (0 : Nat))), i6 ((jnM w a b).mo (i + (0 : Nat))), i6 ((jnM w a b).go (i + (0 : Nat)))], SV.lst (4 : Nat) w.m.n fun (i : Nat) => SV.agg [i6 (w.m.fr (i + (0 : Nat))), i6 (w.m.dr (i + (0 : Nat))), i6 (w.m.va (i + (0 : Nat))), i6 (w.m.co (i + (0 : Nat)))]])) z → false = true ∧ True) ∧ (¬PrL w z < PrL (wOf (SV.agg [SV.int IntKind.i64 w.s0, SV.int IntKind.i64 w.s1, SV.lst (5 : Nat) w.j.n fun (i : Nat) => SV.agg [i6 ((jnM w a b).nl (i + (0 : Nat))), i6 ((jnM w a b).nh (i + (0 : Nat))), i6 ((jnM w a b).le (i + (0 : Nat))), i6 ((jnM w a b).mo (i + (0 : Nat))), i6 ((jnM w a b).go (i + (0 : Nat)))], SV.lst (4 : Nat) w.m.n fun (i : Nat) => SV.agg [i6 (w.m.fr (i + (0 : Nat))), i6 (w.m.dr (i + (0 : Nat))), i6 (w.m.va (i + (0 : Nat))), i6 (w.m.co (i + (0 : Nat)))]])) z → (0 : Nat) < (1 : Nat) ∧ (0 : Nat) < (1 : Nat) ∧ (PrH w z < PrH (wOf (SV.agg [SV.int IntKind.i64 w.s0, SV.int IntKind.i64 w.s1, SV.lst (5 : Nat) w.j.n fun (i : Nat) => SV.agg [i6 ((jnM w a b).nl (i + (0 : Nat))), i6 ((jnM w a b).nh (i + (0 : Nat))), i6 ((jnM w a b).le (i + (0 : Nat))), i6 ((jnM w a b).mo (i + (0 : Nat))), i6 ((jnM w a b).go (i + (0 : Nat)))], SV.lst (4 : Nat) w.m.n fun (i : Nat) => SV.agg [i6 (w.m.fr (i + (0 : Nat))), i6 (w.m.dr (i + (0 : Nat))), i6 (w.m.va (i + (0 : Nat))), i6 (w.m.co (i + (0 : Nat)))]])) z → false = true ∧ True) ∧ (¬PrH w z < PrH (wOf (SV.agg [SV.int
 IntKind.i64 w.s0, SV.int IntKind.i64 w.s1, SV.lst (5 : Nat) w.j.n fun (i : Nat) => SV.agg [i6 ((jnM w a b).nl (i + (0 : Nat))), i6 ((jnM w a b).nh (i + (0 : Nat))), i6 ((jnM w a b).le (i + (0 : Nat))), i6 ((jnM w a b).mo (i + (0 : Nat))), i6 ((jnM w a b).go (i + (0 : Nat)))], SV.lst (4 : Nat) w.m.n fun (i : Nat) => SV.agg [i6 (w.m.fr (i + (0 : Nat))), i6 (w.m.dr (i + (0 : Nat))), i6 (w.m.va (i + (0 : Nat))), i6 (w.m.co (i + (0 : Nat)))]])) z → (0 : Nat) < (1 : Nat) ∧ (0 : Nat) < (1 : Nat) ∧ (PrL (wOf (SV.agg [SV.int IntKind.i64 (min (1099511627776 : Int) (w.s0 + b)), SV.int IntKind.i64 (min (1099511627776 : Int) (w.s1 + b)), w.j.sv, w.m.sv])) z < PrL w z → false = true ∧ True) ∧ (¬PrL (wOf (SV.agg [SV.int IntKind.i64 (min (1099511627776 : Int) (w.s0 + b)), SV.int IntKind.i64 (min (1099511627776 : Int) (w.s1 + b)), w.j.sv, w.m.sv])) z < PrL w z → (0 : Nat) < (1 : Nat) ∧ (0 : Nat) < (1 : Nat) ∧ (PrH (wOf (SV.agg [SV.int IntKind.i64 (min (1099511627776 : Int) (w.s0 + b)), SV.int IntKind.i64 (min (1099511627776 : Int) (w.s1 + b)), w.j.sv, w.m.sv])) z < PrH w z → false = true ∧ True) ∧ (¬PrH (wOf (SV.agg [SV.int IntKind.i64 (min (1099511627776 : Int) (w.s0 + b)), SV.int IntKind.i64 (min (1099511627776 : Int) (w.s1 + b)), w.j.sv, w.m.sv])) z < PrH w z → (0 : Nat) < (1 : Nat) ∧ (0 : Nat) < (1 : Nat) ∧ (∀ (i : Nat), i < w.j.1 → true = true) ∧ (0 : Nat) = (0 : Nat) ∧ (0 : Nat) = (0 : Nat) ∧ (∀ (i : Nat), true = true) ∧ ((0 : Nat) + w.j.1) * (40 : Nat) ≤ (140737488355328 : Nat) ∧ (0 : Nat) + w.j.1 ≤ (4611686018427387904 : Nat) ∧ (∃ (z_4 : Nat), (z_4 ≤ w.j.1 ∧ okNet w) ∧ z = z ∧ b = b ∧ (0 : Nat) = (0 : Nat) ∧ (0 : Nat) = (0 : Nat) ∧ (0 : Nat) = (0 : Nat) ∧ (0 : Nat) = (0 : Nat) ∧ (0 : Nat) = (0 : Nat) ∧ (0 : Nat) = (0 : Nat) ∧ (0 : Int) = (↑z_4 : Int) ∧ w.1 = w.1 ∧ w.2 = w.2 ∧
 w.j.1 = w.j.1 ∧ (∀ (i : Nat), i < w.j.1 → (SV.agg [i6 (w.j.nl i), i6 (w.j.nh i), i6 (w.j.le i), i6 (w.j.mo i), i6 (w.j.go i)]).den = (SV.agg [i6 (w.j.nl i), i6 (w.j.nh i), i6 (w.j.le i), i6 (w.j.mo i), i6 (w.j.go i)]).den ∧ True ∧ True ∧ True ∧ True ∧ True ∧ True) ∧ w.m.1 = w.m.1 ∧ (∀ (i : Nat), i < w.m.1 → (SV.agg [i6 (w.m.fr i), i6 (w.m.dr i), i6 (w.m.va i), i6 (w.m.co i)]).den = (SV.agg [i6 (w.m.fr i), i6 (w.m.dr i), i6 (w.m.va i), i6 (w.m.co i)]).den ∧ True ∧ True ∧ True ∧ True ∧ True) ∧ PrL w z = PrL w z ∧ PrH w z = PrH w z ∧ w.1 = w.1 ∧ w.2 = w.2 ∧ (0 : Nat) = (0 : Nat) ∧ (0 : Nat) + w.j.1 = w.j.1 ∧ w.m.1 = w.m.1 ∧ (∀ (i : Nat), i < w.m.1 → (SV.agg [i6 (w.m.fr i), i6 (w.m.dr i), i6 (w.m.va i), i6 (w.m.co i)]).den = (SV.agg [i6 (w.m.fr i), i6 (w.m.dr i), i6 (w.m.va i), i6 (w.m.co i)]).den ∧ True ∧ True ∧ True ∧ True ∧ True) ∧ w.j.1 = (0 : Nat) + w.j.1 ∧ (∀ (i : Nat), i < w.j.1 → (5 : Nat) = (5 : Nat) ∧ (if i < (0 : Nat) then (0 : Int) else w.j.2 (i - (0 : Nat))) = cuA w z_4 i (0 : Int) (w.j.2 i) ∧ (if i < (0 : Nat) then (0 : Int) else w.j.3 (i - (0 : Nat))) = cuA w z_4 i b (w.j.3 i) ∧ (if i < (0 : Nat) then (0 : Int) else w.j.4 (i - (0 : Nat))) = w.j.4 i ∧ (if i < (0 : Nat) then (0 : Int) else w.j.5 (i - (0 : Nat))) = w.j.5 i ∧ (if i < (0 : Nat) then (0 : Int) else w.j.6 (i - (0 : Nat))) = cuA w z_4 i b (w.j.6 i) ∧ True) ∧ True) ∧ ∀ (z_4 : Nat), z_4 ≤ w.j.1 ∧ okNet w → (0 : Nat) < (1 : Nat) ∧ ((↑z_4 : Int) < (↑w.j.1 : Int) → (0 : Nat) < (1 : Nat) ∧ (∀ (i : Nat), i < w.j.1 → True ∧ True ∧ True ∧ True ∧ True ∧ True) ∧ (∀ (i : Nat), i < w.m.1 → True ∧ True ∧ True ∧ True ∧ True) ∧ w.sv = w.sv ∧ (¬chkN w (↑z_4 : Int) = (0 : Int) → false = true ∧ True) ∧ (¬¬chkN w (↑z_4 : Int) = (0 : Int) → (FedV w (↑z_4 : Int) = (0 : Int) → (True ∧ True ∧ True ∧ True ∧ (0 : Nat) <
 (1 : Nat) ∧ True ∧ True ∧ True ∧ True ∧ True ∧ True ∧ (0 : Nat) < (1 : Nat) ∧ True ∧ True ∧ True ∧ True ∧ True ∧ True ∧ ((-9223372036854775808 : Int) ≤ b ∧ b ≤ (9223372036854775807 : Int)) ∧ True ∧ True ∧ True ∧ True ∧ True ∧ True ∧ ((-9223372036854775808 : Int) ≤ b ∧ b ≤ (9223372036854775807 : Int)) ∧ (True ∧ True ∧ (0 : Int) ≤ (↑z_4 : Int) ∧ (↑z_4 : Int) < (↑w.j.1 : Int) ∧ True ∧ True ∧ True ∧ True ∧ (0 : Nat) + (2 : Nat) ≤ (5 : Nat) ∧ (0 : Nat) + (↑z_4 : Int).toNat < w.j.1 ∧ (∀ (i' : Nat), true = true) ∧ (True ∧ True ∧ (0 : Int) ≤ (↑z_4 : Int) ∧ (↑z_4 : Int) < (↑w.j.1 : Int) ∧ True ∧ True ∧ True ∧ True ∧ (4 : Nat) + (1 : Nat) ≤ (5 : Nat) ∧ (0 : Nat) + (↑z_4 : Int).toNat < w.j.1 ∧ (∀ (i' : Nat), true = true) ∧ (okC w (↑z_4 : Int).toNat ∧ (↑z_4 : Int).toNat = (↑z_4 : Int).toNat) ∧ z = z ∧ b = b ∧ (0 : Nat) = (0 : Nat) ∧ (0 : Nat) = (0 : Nat) ∧ (0 : Nat) = (0 : Nat) ∧ (0 : Nat) = (0 : Nat) ∧ (0 : Nat) = (0 : Nat) ∧ (0 : Nat) = (0 : Nat) ∧ (↑z_4 : Int) = (↑(↑z_4 : Int).toNat : Int) ∧ w.1 = w.1 ∧ w.2 = w.2 ∧ w.j.1 = w.j.1 ∧ (∀ (i : Nat), i < w.j.1 → (SV.agg [i6 (w.j.nl i), i6 (w.j.nh i), i6 (w.j.le i), i6 (w.j.mo i), i6 (w.j.go i)]).den = (SV.agg [i6 (w.j.nl i), i6 (w.j.nh i), i6 (w.j.le i), i6 (w.j.mo i), i6 (w.j.go i)]).den ∧ True ∧ True ∧ True ∧ True ∧ True ∧ True) ∧ w.m.1 = w.m.1 ∧ (∀ (i : Nat), i < w.m.1 → (SV.agg [i6 (w.m.fr i), i6 (w.m.dr i), i6 (w.m.va i), i6 (w.m.co i)]).den = (SV.agg [i6 (w.m.fr i), i6 (w.m.dr i), i6 (w.m.va i), i6 (w.m.co i)]).den ∧ True ∧ True ∧ True ∧ True ∧ True) ∧ PrL w z = PrL w z ∧ PrH w z = PrH w z ∧ w.1 = w.1 ∧ w.2 = w.2 ∧ (0 : Nat) = (0 : Nat) ∧ w.j.1 = w.j.1 ∧ w.m.1 = w.m.1 ∧ (∀ (i : Nat), i < w.m.1 → (SV.agg [i6 (w.m.fr i), i6 (w.m.dr i), i6 (w.m.va i), i6 (w.m.co i)]).den = (SV.agg [i6 (w.m.fr i), i6 (w.m.dr i), i6 (w.m.va i), i6
 (w.m.co i)]).den ∧ True ∧ True ∧ True ∧ True ∧ True) ∧ w.j.1 = w.j.1 ∧ (∀ (i : Nat), i < w.j.1 → (5 : Nat) = (5 : Nat) ∧ (if i = (0 : Nat) + (↑z_4 : Int).toNat then if i = (0 : Nat) + (↑z_4 : Int).toNat then (0 : Int) else cuA w z_4 i (0 : Int) (w.j.2 i) else if i = (0 : Nat) + (↑z_4 : Int).toNat then (0 : Int) else cuA w z_4 i (0 : Int) (w.j.2 i)) = cuA w ((↑z_4 : Int).toNat + (1 : Nat)) i (0 : Int) (w.j.2 i) ∧ (if i = (0 : Nat) + (↑z_4 : Int).toNat then if i = (0 : Nat) + (↑z_4 : Int).toNat then b else cuA w z_4 i b (w.j.3 i) else if i = (0 : Nat) + (↑z_4 : Int).toNat then b else cuA w z_4 i b (w.j.3 i)) = cuA w ((↑z_4 : Int).toNat + (1 : Nat)) i b (w.j.3 i) ∧ (if i = (0 : Nat) + (↑z_4 : Int).toNat then if i = (0 : Nat) + (↑z_4 : Int).toNat then w.j.4 i else w.j.4 i else if i = (0 : Nat) + (↑z_4 : Int).toNat then w.j.4 i else w.j.4 i) = w.j.4 i ∧ (if i = (0 : Nat) + (↑z_4 : Int).toNat then if i = (0 : Nat) + (↑z_4 : Int).toNat then w.j.5 i else w.j.5 i else if i = (0 : Nat) + (↑z_4 : Int).toNat then w.j.5 i else w.j.5 i) = w.j.5 i ∧ (if i = (0 : Nat) + (↑z_4 : Int).toNat then b else if i = (0 : Nat) + (↑z_4 : Int).toNat then cuA w z_4 i b (w.j.6 i) else cuA w z_4 i b (w.j.6 i)) = cuA w ((↑z_4 : Int).toNat + (1 : Nat)) i b (w.j.6 i) ∧ True) ∧ True) ∧ True) ∧ True) ∧ ∀ (z_5 : Nat), okC w z_5 ∧ z_5 = (↑z_4 : Int).toNat → ((-9223372036854775808 : Int) ≤ (↑z_5 : Int) + (1 : Int) ∧ (↑z_5 : Int) + (1 : Int) ≤ (9223372036854775807 : Int)) ∧ ∃ (z_6 : Nat), (z_6 ≤ w.j.1 ∧ okNet w) ∧ w.j.1 - z_6 < w.j.1 - z_4 ∧ z = z ∧ b = b ∧ (0 : Nat) = (0 : Nat) ∧ (0 : Nat) = (0 : Nat) ∧ (0 : Nat) = (0 : Nat) ∧ (0 : Nat) = (0 : Nat) ∧ (0 : Nat) = (0 : Nat) ∧ (0 : Nat) = (0 : Nat) ∧ (↑z_5 : Int) + (1 : Int) = (↑z_6 : Int) ∧ w.1 = w.1 ∧ w.2 = w.2 ∧ w.j.1 = w.j.1 ∧ (∀ (i : Nat), i < w.j.1 →
 (SV.agg [i6 (w.j.nl i), i6 (w.j.nh i), i6 (w.j.le i), i6 (w.j.mo i), i6 (w.j.go i)]).den = (SV.agg [i6 (w.j.nl i), i6 (w.j.nh i), i6 (w.j.le i), i6 (w.j.mo i), i6 (w.j.go i)]).den ∧ True ∧ True ∧ True ∧ True ∧ True ∧ True) ∧ w.m.1 = w.m.1 ∧ (∀ (i : Nat), i < w.m.1 → (SV.agg [i6 (w.m.fr i), i6 (w.m.dr i), i6 (w.m.va i), i6 (w.m.co i)]).den = (SV.agg [i6 (w.m.fr i), i6 (w.m.dr i), i6 (w.m.va i), i6 (w.m.co i)]).den ∧ True ∧ True ∧ True ∧ True ∧ True) ∧ PrL w z = PrL w z ∧ PrH w z = PrH w z ∧ w.1 = w.1 ∧ w.2 = w.2 ∧ (0 : Nat) = (0 : Nat) ∧ w.j.1 = w.j.1 ∧ w.m.1 = w.m.1 ∧ (∀ (i : Nat), i < w.m.1 → (SV.agg [i6 (w.m.fr i), i6 (w.m.dr i), i6 (w.m.va i), i6 (w.m.co i)]).den = (SV.agg [i6 (w.m.fr i), i6 (w.m.dr i), i6 (w.m.va i), i6 (w.m.co i)]).den ∧ True ∧ True ∧ True ∧ True ∧ True) ∧ w.j.1 = w.j.1 ∧ (∀ (i : Nat), i < w.j.1 → (5 : Nat) = (5 : Nat) ∧ cuA w (z_5 + (1 : Nat)) i (0 : Int) (w.j.2 i) = cuA w z_6 i (0 : Int) (w.j.2 i) ∧ cuA w (z_5 + (1 : Nat)) i b (w.j.3 i) = cuA w z_6 i b (w.j.3 i) ∧ w.j.4 i = w.j.4 i ∧ w.j.5 i = w.j.5 i ∧ cuA w (z_5 + (1 : Nat)) i b (w.j.6 i) = cuA w z_6 i b (w.j.6 i) ∧ True) ∧ True) ∧ (¬FedV w (↑z_4 : Int) = (0 : Int) → ((-9223372036854775808 : Int) ≤ (↑z_4 : Int) + (1 : Int) ∧ (↑z_4 : Int) + (1 : Int) ≤ (9223372036854775807 : Int)) ∧ ∃ (z_5 : Nat), (z_5 ≤ w.j.1 ∧ okNet w) ∧ w.j.1 - z_5 < w.j.1 - z_4 ∧ z = z ∧ b = b ∧ (0 : Nat) = (0 : Nat) ∧ (0 : Nat) = (0 : Nat) ∧ (0 : Nat) = (0 : Nat) ∧ (0 : Nat) = (0 : Nat) ∧ (0 : Nat) = (0 : Nat) ∧ (0 : Nat) = (0 : Nat) ∧ (↑z_4 : Int) + (1 : Int) = (↑z_5 : Int) ∧ w.1 = w.1 ∧ w.2 = w.2 ∧ w.j.1 = w.j.1 ∧ (∀ (i : Nat), i < w.j.1 → (SV.agg [i6 (w.j.nl i), i6 (w.j.nh i), i6 (w.j.le i), i6 (w.j.mo i), i6 (w.j.go i)]).den = (SV.agg [i6 (w.j.nl i), i6 (w.j.nh i), i6 (w.j.le i), i6 (w.j.mo i), i6 (w.j.go i)]).den ∧
 True ∧ True ∧ True ∧ True ∧ True ∧ True) ∧ w.m.1 = w.m.1 ∧ (∀ (i : Nat), i < w.m.1 → (SV.agg [i6 (w.m.fr i), i6 (w.m.dr i), i6 (w.m.va i), i6 (w.m.co i)]).den = (SV.agg [i6 (w.m.fr i), i6 (w.m.dr i), i6 (w.m.va i), i6 (w.m.co i)]).den ∧ True ∧ True ∧ True ∧ True ∧ True) ∧ PrL w z = PrL w z ∧ PrH w z = PrH w z ∧ w.1 = w.1 ∧ w.2 = w.2 ∧ (0 : Nat) = (0 : Nat) ∧ w.j.1 = w.j.1 ∧ w.m.1 = w.m.1 ∧ (∀ (i : Nat), i < w.m.1 → (SV.agg [i6 (w.m.fr i), i6 (w.m.dr i), i6 (w.m.va i), i6 (w.m.co i)]).den = (SV.agg [i6 (w.m.fr i), i6 (w.m.dr i), i6 (w.m.va i), i6 (w.m.co i)]).den ∧ True ∧ True ∧ True ∧ True ∧ True) ∧ w.j.1 = w.j.1 ∧ (∀ (i : Nat), i < w.j.1 → (5 : Nat) = (5 : Nat) ∧ cuA w z_4 i (0 : Int) (w.j.2 i) = cuA w z_5 i (0 : Int) (w.j.2 i) ∧ cuA w z_4 i b (w.j.3 i) = cuA w z_5 i b (w.j.3 i) ∧ w.j.4 i = w.j.4 i ∧ w.j.5 i = w.j.5 i ∧ cuA w z_4 i b (w.j.6 i) = cuA w z_5 i b (w.j.6 i) ∧ True) ∧ True))) ∧ (¬(↑z_4 : Int) < (↑w.j.1 : Int) → (0 : Nat) < (1 : Nat) ∧ (0 : Nat) + w.j.1 ≤ w.j.1 ∧ (∀ (i : Nat), i < w.j.1 → (5 : Nat) = (5 : Nat) ∧ True ∧ True ∧ True ∧ True ∧ True ∧ True) ∧ (∀ (i : Nat), i < w.m.1 → True ∧ True ∧ True ∧ True ∧ True) ∧ SV.agg [SV.int IntKind.i64 w.s0, SV.int IntKind.i64 w.s1, SV.lst (5 : Nat) w.j.n fun (i : Nat) => SV.agg [i6 ((jnC w b z_4).nl (i + (0 : Nat))), i6 ((jnC w b z_4).nh (i + (0 : Nat))), i6 ((jnC w b z_4).le (i + (0 : Nat))), i6 ((jnC w b z_4).mo (i + (0 : Nat))), i6 ((jnC w b z_4).go (i + (0 : Nat)))], w.m.sv] = (wOf (SV.agg [SV.int IntKind.i64 w.s0, SV.int IntKind.i64 w.s1, SV.lst (5 : Nat) w.j.n fun (i : Nat) => SV.agg [i6 ((jnC w b z_4).nl (i + (0 : Nat))), i6 ((jnC w b z_4).nh (i + (0 : Nat))), i6 ((jnC w b z_4).le (i + (0 : Nat))), i6 ((jnC w b z_4).mo (i + (0 : Nat))), i6 ((jnC w b z_4).go (i + (0 : Nat)))], w.m.sv])).sv ∧ (0 : Nat) < (1 :
 Nat) ∧ (0 : Nat) < (1 : Nat) ∧ (PrL (wOf (SV.agg [SV.int IntKind.i64 w.s0, SV.int IntKind.i64 w.s1, SV.lst (5 : Nat) w.j.n fun (i : Nat) => SV.agg [i6 ((jnC w b z_4).nl (i + (0 : Nat))), i6 ((jnC w b z_4).nh (i + (0 : Nat))), i6 ((jnC w b z_4).le (i + (0 : Nat))), i6 ((jnC w b z_4).mo (i + (0 : Nat))), i6 ((jnC w b z_4).go (i + (0 : Nat)))], w.m.sv])) z = PrL w z ∧ PrH (wOf (SV.agg [SV.int IntKind.i64 w.s0, SV.int IntKind.i64 w.s1, SV.lst (5 : Nat) w.j.n fun (i : Nat) => SV.agg [i6 ((jnC w b z_4).nl (i + (0 : Nat))), i6 ((jnC w b z_4).nh (i + (0 : Nat))), i6 ((jnC w b z_4).le (i + (0 : Nat))), i6 ((jnC w b z_4).mo (i + (0 : Nat))), i6 ((jnC w b z_4).go (i + (0 : Nat)))], w.m.sv])) z = PrH w z → (PrE (wOf (SV.agg [SV.int IntKind.i64 w.s0, SV.int IntKind.i64 w.s1, SV.lst (5 : Nat) w.j.n fun (i : Nat) => SV.agg [i6 ((jnC w b z_4).nl (i + (0 : Nat))), i6 ((jnC w b z_4).nh (i + (0 : Nat))), i6 ((jnC w b z_4).le (i + (0 : Nat))), i6 ((jnC w b z_4).mo (i + (0 : Nat))), i6 ((jnC w b z_4).go (i + (0 : Nat)))], w.m.sv])) z = (0 : Int) → true = true ∧ True) ∧ (¬PrE (wOf (SV.agg [SV.int IntKind.i64 w.s0, SV.int IntKind.i64 w.s1, SV.lst (5 : Nat) w.j.n fun (i : Nat) => SV.agg [i6 ((jnC w b z_4).nl (i + (0 : Nat))), i6 ((jnC w b z_4).nh (i + (0 : Nat))), i6 ((jnC w b z_4).le (i + (0 : Nat))), i6 ((jnC w b z_4).mo (i + (0 : Nat))), i6 ((jnC w b z_4).go (i + (0 : Nat)))], w.m.sv])) z = (0 : Int) → false = true ∧ True)) ∧ (¬(PrL (wOf (SV.agg [SV.int IntKind.i64 w.s0, SV.int IntKind.i64 w.s1, SV.lst (5 : Nat) w.j.n fun (i : Nat) => SV.agg [i6 ((jnC w b z_4).nl (i + (0 : Nat))), i6 ((jnC w b z_4).nh (i + (0 : Nat))), i6 ((jnC w b z_4).le (i + (0 : Nat))), i6 ((jnC w b z_4).mo (i + (0 : Nat))), i6 ((jnC w b z_4).go (i + (0 : Nat)))], w.m.sv])) z = PrL w z ∧ PrH (wOf (SV.agg [SV.int
 IntKind.i64 w.s0, SV.int IntKind.i64 w.s1, SV.lst (5 : Nat) w.j.n fun (i : Nat) => SV.agg [i6 ((jnC w b z_4).nl (i + (0 : Nat))), i6 ((jnC w b z_4).nh (i + (0 : Nat))), i6 ((jnC w b z_4).le (i + (0 : Nat))), i6 ((jnC w b z_4).mo (i + (0 : Nat))), i6 ((jnC w b z_4).go (i + (0 : Nat)))], w.m.sv])) z = PrH w z) → false = true ∧ True))))))))))))) := by kernel_rfl
end Go.Proofs.Ytpannbkmpbioiaa

set_option linter.unusedVariables false
set_option maxRecDepth 100000
namespace Go.Proofs.Ytpannbkmpbioiaa
open Go Go.Lg
attribute [local irreducible] bodyH
theorem mem_fed {w : Nw} (h : okNet w) {z : Nat} (hz : z < w.j.n) (hfr : freeW w z) {b : Bool} {t x : Nat} (ht : t ≤ dpt w.m z z) (hx : x < w.j.n) (hm : memB (opM w.m z) b (up w.m z t) x) : ¬ fedS w.m x = 0 := by
  have hn := h.n
  intro hf
  have hex : ∃ k, k < dpt w.m x x ∧ w.m.va (up w.m x k - 1) = 1 := by
    apply Classical.byContradiction
    intro hno
    unfold fedS at hf
    rw [if_neg hno] at hf
    unfold stt at hf
    split at hf <;> omega
  obtain ⟨k, hk, hv⟩ := hex
  obtain ⟨t', ht', hu, hp⟩ := hm
  rw [dpt_op] at ht'
  rw [up_op] at hu
  by_cases hkt : k < t'
  · have h1 := hp k hkt
    rw [up_op] at h1
    rcases va_cases w.m z (up w.m x k - 1) with ⟨q, hq, e, e2⟩ | ⟨e, _⟩
    · exact hfr q hq (by rw [e]; exact hv)
    · rw [e, hv] at h1
      cases b <;> simp [pas] at h1
  · have hd := dpt_add h.okm (j := x) (by omega) ht'
    rw [hu] at hd
    have hd2 := dpt_add h.okm (j := z) (by omega) ht
    have e : up w.m x k = up w.m z (t + (k - t')) := by
      rw [up_add w.m z t, ← hu, ← up_add]
      congr 1; omega
    exact hfr (t + (k - t')) (by omega) (by rw [← e]; exact hv)
theorem cuA_no {w : Nw} {i q : Nat} {x y : Int} (h : ¬ fedS w.m q = 0) : cuA w i q x y = y := by
  unfold cuA; rw [if_neg fun hc => h hc.f]
theorem ok_C {w : Nw} (h : okNet w) {b : Int} (hb : 0 ≤ b ∧ b < 256) (i : Nat) : okNet (nC w b i) := by
  refine ⟨h.src, h.n, fun q hq => ?_, h.ms⟩
  have h1 := h.js q hq
  have h2 := h1.need
  have h3 := h1.gov
  show okJn (cuA w i q 0 (w.j.nl q)) (cuA w i q b (w.j.nh q)) (w.j.le q) (w.j.mo q) (cuA w i q b (w.j.go q))
  unfold cuA
  split
  · exact ⟨by omega, h1.press, .inr (by omega)⟩
  · exact h1
open Classical in
theorem cut_chain {w : Nw} (h : okNet w) {b : Int} (hb : 0 ≤ b ∧ b < 256) {z : Nat} (hz : z < w.j.n) (hfr : freeW w z) (n : Nat) (s : Bool) : ∀ c t, t + c = dpt w.m z z → prS s (opW (nC w b n) z) (up w.m z t) = prS s (opW w z) (up w.m z t)
  | 0, t, e => by
    have hn := h.n
    have h0 : up w.m z t = 0 := ((w_at h.okm (j := z) (by omega) (i := t) (by omega)).2.1).2 (by omega)
    have hg : cuA w n 0 b (w.j.go 0) = w.j.go 0 := cuA_no (by
      unfold fedS
      have : ¬ ∃ k, k < dpt w.m 0 0 ∧ w.m.va (up w.m 0 k - 1) = 1 := fun ⟨k, hk, _⟩ => by simp [dpt] at hk
      rw [if_neg this]; unfold stt; split <;> omega)
    rw [h0, prS_zero, prS_zero]
    show govd (cuA w n 0 b (w.j.go 0)) (srcE s w.s0 w.s1) = govd (w.j.go 0) (srcE s w.s0 w.s1)
    rw [hg]
  | c + 1, t, e => by
    have hn := h.n
    have hlt : t < dpt w.m z z := by omega
    have h1 := w_at h.okm (j := z) (by omega) (i := t) (by omega)
    have hok := ok_C h hb n
    have ih := cut_chain h hb hz hfr n s c (t + 1) (by omega)
    have hfed : ¬ fedS w.m (up w.m z t) = 0 := mem_fed h hz hfr (b := s) (t := t) (by omega) (by omega) ⟨0, by omega, rfl, fun s hs => by omega⟩
    rw [prS_succ (hok.op z) (j := up w.m z t) (by omega) (by show _ < w.j.n; omega), prS_succ (h.op z) (j := up w.m z t) (by omega) (by show _ < w.j.n; omega)]
    have ef : flowS s (opW (nC w b n) z) (up w.m z t) = flowS s (opW w z) (up w.m z t) := by
      rw [flow_mem (hok.op z) s (show up w.m z t < w.j.n by omega), flow_mem (h.op z) s (show up w.m z t < w.j.n by omega)]
      refine sumN_congr fun x hx => ?_
      have hx : x < w.j.n := hx
      show (if memB (opM w.m z) s (up w.m z t) x then needE s (cuA w n x 0 (w.j.nl x)) (cuA w n x b (w.j.nh x)) else 0) = if memB (opM w.m z) s (up w.m z t) x then needE s (w.j.nl x) (w.j.nh x) else 0
      by_cases hm : memB (opM w.m z) s (up w.m z t) x
      · have hf := mem_fed h hz hfr (by omega) hx hm
        rw [cuA_no hf, cuA_no hf]
      · rw [if_neg hm, if_neg hm]
    show govd (cuA w n (up w.m z t) b (w.j.go (up w.m z t))) (prS s (opW (nC w b n) z) (up w.m z (t + 1)) - w.m.dr (up w.m z t - 1) * flowS s (opW (nC w b n) z) (up w.m z t)) = govd (w.j.go (up w.m z t)) (prS s (opW w z) (up w.m z (t + 1)) - w.m.dr (up w.m z t - 1) * flowS s (opW w z) (up w.m z t))
    rw [cuA_no hfed, ih, ef]
structure morF (w : Nw) (z a b : Int) : Prop where
  h : okNet w
  hz : 0 ≤ z ∧ z < w.j.n
  m : ∀ m, (m = w.m ∨ (1 ≤ w.m.n ∧ m = mnM w a b)) → PrE (nM w a b m) z = 0 ∧ PrL (nM w a b m) z ≤ PrL w z ∧ PrH (nM w a b m) z ≤ PrH w z
  hi : PrE (nHi w b) z = 0 ∧ PrL w z ≤ PrL (nHi w b) z ∧ PrH w z ≤ PrH (nHi w b) z
  two : ∀ o, PrE (wW w o) z = 0 ∧ PrL w z ≤ PrL (wW w o) z ∧ PrH w z ≤ PrH (wW w o) z
  cut : ∀ n, PrE (nC w b n) z = 0 ∧ PrL (nC w b n) z = PrL w z ∧ PrH (nC w b n) z = PrH w z
theorem mor_facts {w : Nw} {z a b : Int} (hE : PrE w z = 0) (ha : 0 ≤ a ∧ a < 256) (hb : 0 ≤ b ∧ b < 256) : morF w z a b := by
  obtain ⟨h, hz, hf⟩ := chk_fed hE
  have hzn : z.toNat < w.j.n := by omega
  have hfr : freeW w z.toNat := fun t ht hv => hf (by unfold fedS; rw [if_pos ⟨t, ht, hv⟩])
  refine ⟨h, hz, fun m hm => ?_, ?_, fun o => ?_, fun n => ?_⟩
  · exact (pr_mono (less_M h ha.1 hb.1 hm) hz hf).2
  · obtain ⟨h1, _, h3⟩ := pr_mono (less_Hi h hb.1) (z := z) hz hf
    exact ⟨h1, h3⟩
  · obtain ⟨h1, _, h3⟩ := pr_mono (less_W h o) (z := z) hz (by rw [fed_congr (m := (wW w o).m) (m' := w.m) rfl rfl]; exact hf)
    exact ⟨h1, h3⟩
  · have hE' : PrE (nC w b n) z = 0 := fed_PrE (ok_C h hb n) hz hf
    refine ⟨hE', ?_, ?_⟩
    · simp only [PrL, hE, hE', if_true]
      exact cut_chain h hb hzn hfr n true (dpt w.m z.toNat z.toNat) 0 (by omega)
    · simp only [PrH, hE, hE', if_true]
      exact cut_chain h hb hzn hfr n false (dpt w.m z.toNat z.toNat) 0 (by omega)
end Go.Proofs.Ytpannbkmpbioiaa

set_option linter.unusedVariables false
set_option maxRecDepth 100000
namespace Go.Proofs.Ytpannbkmpbioiaa
open Go Go.Lg
attribute [local irreducible] bodyH
theorem cu_z {w : Nw} {q : Nat} {x y : Int} : y = cuA w 0 q x y := by
  unfold cuA; rw [if_neg fun h => absurd h.i (Nat.not_lt_zero q)]
theorem cu_s {w : Nw} {i q : Nat} {x : Int} {f : Nat → Int} (h : fedS w.m i = 0) : (if q = i then x else cuA w i q x (f q)) = cuA w (i + 1) q x (f q) := by
  by_cases e : q = i
  · subst e
    rw [if_pos rfl]
    unfold cuA; rw [if_pos ⟨by omega, h⟩]
  · rw [if_neg e]
    unfold cuA
    congr 1
    apply propext
    exact ⟨fun h => ⟨by have := h.i; omega, h.f⟩, fun h => ⟨by have := h.i; omega, h.f⟩⟩
theorem cu_n {w : Nw} {i q : Nat} {x y : Int} (h : ¬ fedS w.m i = 0) : cuA w i q x y = cuA w (i + 1) q x y := by
  unfold cuA
  congr 1
  apply propext
  exact ⟨fun h => ⟨by have := h.i; omega, h.f⟩, fun h' => ⟨by
    have := h'.i
    rcases Nat.lt_succ_iff_lt_or_eq.1 this with h2 | h2
    · exact h2
    · exact absurd h'.f (by rw [h2]; exact h), h'.f⟩⟩
theorem chk_at {w : Nw} (h : okNet w) {i : Nat} (hi : i < w.j.n) : chkN w (i : Int) = 0 ∧ FedV w (i : Int) = fedS w.m i := by
  have : chkN w (i : Int) = 0 := by
    have : (0 : Int) ≤ i ∧ (i : Int) < w.j.n := by omega
    simp [chkN, h, this]
  exact ⟨this, by simp [FedV, this]⟩
theorem shP_in {x : Int} {n : Nat} (h0 : 0 ≤ x) (h1 : x < n) (hn : n ≤ 8) : 1 ≤ shP x ∧ shP x ≤ 256 := by
  unfold shP
  have : x.toNat = 0 ∨ x.toNat = 1 ∨ x.toNat = 2 ∨ x.toNat = 3 ∨ x.toNat = 4 ∨ x.toNat = 5 ∨ x.toNat = 6 ∨ x.toNat = 7 := by omega
  rcases this with e | e | e | e | e | e | e | e <;> rw [e] <;> decide
theorem more_true {w : Nw} {z a b : Int} (ha : 0 ≤ a ∧ a < 256) (hb : 0 ≤ b ∧ b < 256) : moreG w z a b := by
  rw [moreG_vc]
  simp only [and_true, true_and, Nat.zero_lt_one, implies_true, Int.toNat_natCast, imp_false, Classical.not_not, Bool.false_eq_true, and_self, Nat.zero_add, Nat.add_zero, Nat.not_lt_zero, if_false, Nat.sub_zero, ite_self, and_imp, forall_const]
  intro h8
  refine ⟨fun hE => ⟨by simp [PrL, hE], by simp [PrH, hE]⟩, fun hE => ?_⟩
  have F : morF w z a b := mor_facts hE ha hb
  have hok := F.h
  have hn := hok.n
  have hs := hok.src
  have hx := tmod_ix (n := w.j.n) ha.1 (by omega)
  have hq := (hok.js (a.tmod (w.j.n : Int)).toNat (by omega)).need
  have b7 := Int.tmod_nonneg 7 hb.1
  have b8 := Int.tmod_lt_of_pos b (b := 7) (by omega)
  have lp : ∀ z5 : Nat, z5 < w.j.n → chkN w (z5 : Int) = 0 ∧ FedV w (z5 : Int) = fedS w.m z5 := fun z5 h => chk_at hok h
  refine ⟨hok, fun _ => ⟨⟨by omega, by omega, by omega, by omega⟩, by omega, by omega, hx.1, hx.2, by omega, ⟨by omega, by omega, by omega, by omega, hx.1, hx.2, by omega, by omega, fun i hi => ?_⟩, fun hm => ?_, fun hm => ?_⟩⟩
  · unfold ndM jx
    by_cases e : i = (a.tmod (w.j.n : Int)).toNat
    · subst e; simp
    · simp [e]
  · have hy := tmod_ix (n := w.m.n) ha.1 (by omega)
    have hd := (hok.ms (a.tmod (w.m.n : Int)).toNat (by omega)).dr
    have hp := shP_in hy.1 hy.2 (by omega)
    have T := F.two (1 * shP (a.tmod (w.m.n : Int))).toNat
    have FM := F.m (mnM w a b) (.inr ⟨by omega, rfl⟩)
    refine ⟨by omega, by omega, ⟨hy.1, hy.2, by omega, by omega, by omega, by omega, hy.1, hy.2, by omega, by omega, fun i hi => ?_⟩, ⟨hy.1, by show _ ≤ (64 : Int); omega⟩, by omega, ⟨hok, by omega⟩, T.1, fun _ => ⟨Int.not_lt.2 T.2.1, fun _ => ⟨Int.not_lt.2 T.2.2, fun _ => ?_⟩⟩⟩
    · unfold drX kx
      by_cases e : i = (a.tmod (w.m.n : Int)).toNat
      · subst e; simp
      · simp [e]
    refine ⟨by omega, by omega, by omega, by omega, Nat.le_refl _, Nat.le_refl _, rfl, rfl, FM.1, fun _ => ⟨F.hi.1, fun _ => ⟨Int.not_lt.2 FM.2.1, fun _ => ⟨Int.not_lt.2 FM.2.2, fun _ => ⟨Int.not_lt.2 F.hi.2.1, fun _ => ⟨Int.not_lt.2 F.hi.2.2, fun _ => ⟨by omega, by omega, ⟨0, ⟨Nat.zero_le _, hok⟩, rfl, fun i hi => ⟨cu_z, cu_z, cu_z⟩⟩, fun z5 h5 _ => ⟨fun hl => ?_, fun hl => ?_⟩⟩⟩⟩⟩⟩⟩⟩
    · have hl' : z5 < w.j.n := by omega
      obtain ⟨c1, c2⟩ := lp z5 hl'
      refine ⟨c1, fun _ => ⟨fun hf => ?_, fun hf => ?_⟩⟩
      · rw [c2] at hf
        refine ⟨⟨by omega, by omega, by omega, by omega, by omega, by omega, by omega, by omega, by omega, by omega, ⟨hok, hl', hf⟩, fun i hi => ⟨cu_s hf, cu_s hf, cu_s hf⟩⟩, fun z6 _ e6 => ⟨by omega, z5 + 1, ⟨by omega, hok⟩, by omega, by omega, fun i hi => by subst e6; exact ⟨rfl, rfl, rfl⟩⟩⟩
      · rw [c2] at hf
        exact ⟨by omega, z5 + 1, ⟨by omega, hok⟩, by omega, by omega, fun i hi => ⟨cu_n hf, cu_n hf, cu_n hf⟩⟩
    · have C := F.cut z5
      exact ⟨Nat.le_refl _, rfl, fun _ _ => C.1, C.2.1, C.2.2⟩
  · have FM := F.m w.m (.inl rfl)
    refine ⟨by omega, by omega, by omega, by omega, Nat.le_refl _, Nat.le_refl _, rfl, rfl, FM.1, fun _ => ⟨F.hi.1, fun _ => ⟨Int.not_lt.2 FM.2.1, fun _ => ⟨Int.not_lt.2 FM.2.2, fun _ => ⟨Int.not_lt.2 F.hi.2.1, fun _ => ⟨Int.not_lt.2 F.hi.2.2, fun _ => ⟨by omega, by omega, ⟨0, ⟨Nat.zero_le _, hok⟩, rfl, fun i hi => ⟨cu_z, cu_z, cu_z⟩⟩, fun z5 h5 _ => ⟨fun hl => ?_, fun hl => ?_⟩⟩⟩⟩⟩⟩⟩⟩
    · have hl' : z5 < w.j.n := by omega
      obtain ⟨c1, c2⟩ := lp z5 hl'
      refine ⟨c1, fun _ => ⟨fun hf => ?_, fun hf => ?_⟩⟩
      · rw [c2] at hf
        refine ⟨⟨by omega, by omega, by omega, by omega, by omega, by omega, by omega, by omega, by omega, by omega, ⟨hok, hl', hf⟩, fun i hi => ⟨cu_s hf, cu_s hf, cu_s hf⟩⟩, fun z6 _ e6 => ⟨by omega, z5 + 1, ⟨by omega, hok⟩, by omega, by omega, fun i hi => by subst e6; exact ⟨rfl, rfl, rfl⟩⟩⟩
      · rw [c2] at hf
        exact ⟨by omega, z5 + 1, ⟨by omega, hok⟩, by omega, by omega, fun i hi => ⟨cu_n hf, cu_n hf, cu_n hf⟩⟩
    · have C := F.cut z5
      exact ⟨Nat.le_refl _, rfl, fun _ _ => C.1, C.2.1, C.2.2⟩
end Go.Proofs.Ytpannbkmpbioiaa
