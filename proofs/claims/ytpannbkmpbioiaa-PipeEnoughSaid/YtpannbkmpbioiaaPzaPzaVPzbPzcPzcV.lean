import Derived.Test.YtpannbkmpbioiaaQpQqQr
set_option linter.unusedVariables false
set_option linter.unusedSimpArgs false
set_option maxRecDepth 100000
namespace Go.Proofs.Ytpannbkmpbioiaa
open Go Go.Lg
attribute [local irreducible] bodyH
open Classical in
noncomputable def fiL (p : Nat → Prop) (k : Nat) : List Nat := (List.range k).filter fun j => decide (p j)
def lstI (l : List Nat) : SV := .lst 1 l.length fun k => i6 (l.getD k 0 : Nat)
def nilS : SV := .val (.slice none 0 0)
def inP (n s : Int) : Prop := bitA .i64 (s.fdiv (shP n)) 1 = 1
noncomputable def dP (p : Prop) : SV := .dec p (Classical.propDecidable _)
noncomputable def stV (p : Nat → Prop) : SV := .agg [dP (p 0), dP (p 1), dP (p 2), dP (p 3), dP (p 4), dP (p 5), dP (p 6), dP (p 7)]
def noV : SV := .agg [.bool false, .bool false, .bool false, .bool false, .bool false, .bool false, .bool false, .bool false]
noncomputable def setG (b : Nat) : Prop := funH Try.prog (ctrs []) noX (ictrs []) (oneL 0 (natH (fun z => z ≤ 8) (fun z => 8 - z) 2
  (fun z => mkF 17 [(0, i6 b), (2, .ptr 0 0 0), (3, .ptr 1 0 0), (5, i6 z)]) (fun z => mkX [vr 8 noV, vr 8 (stV fun i => i < z ∧ hs b i)]) fun _ => none)) noL 89 [i6 b] (stV (hs b))
noncomputable def numG (p : Nat → Prop) : Prop := funH Try.prog (ctrs []) noX (ictrs []) (oneL 0 (filH 18 3 (fun z => z ≤ 8 ∧ fiL p z = []) (fun z => z ≤ 8) (fun z => 8 - z) 1
  (fun z => mkF 18 [(3, nilS), (6, stV p), (7, i6 z)]) (fun z => mkF 18 [(3, .sl 1 0 (fiL p z).length), (6, stV p), (7, i6 z)])
  (fun _ => mkX [vr 8 (stV p)]) (fun z => mkX [vr 8 (stV p), rw' 1 (fiL p z).length fun k => i6 ((fiL p z).getD k 0 : Nat)]))) noL 43 [stV p] (lstI (fiL p 8))
open Classical in
noncomputable def cosN (m : Mn) (p : Nat → Prop) : Nat → Int
  | 0 => 0
  | k + 1 => cosN m p k + (if p k then m.co k else 0)
noncomputable def cosG (m : Mn) (p : Nat → Prop) : Prop := funH Try.prog (ctrs []) noX (ictrs []) (oneL 0 (natH (fun z => z ≤ m.n) (fun z => m.n - z) 1
  (fun z => mkF 24 [(2, .ptr 0 0 0), (5, i6 (cosN m p z)), (8, m.sv), (9, i6 m.n), (10, i6 z)]) (fun z => mkX [vr 8 (stV p)]) fun _ => none)) noL 44 [stV p, m.sv] (i6 (cosN m p m.n))
noncomputable def andG (p q : Nat → Prop) : Prop := funH Try.prog (ctrs []) noX (ictrs []) (oneL 0 (natH (fun z => z ≤ 8) (fun z => 8 - z) 3
  (fun z => mkF 21 [(2, .ptr 0 0 0), (3, .ptr 1 0 0), (4, .ptr 2 0 0), (6, i6 z)]) (fun z => mkX [vr 8 (stV fun i => p i ∧ (i < z → q i)), vr 8 (stV q), vr 8 noV]) fun _ => none)) noL 66 [stV p, stV q] (stV fun i => p i ∧ q i)
open Classical in
noncomputable def drP (p : Prop) (d : Int) : Int := if p then (d + 1).tdiv 2 else d
noncomputable def wL (w : Nw) (p : Nat → Prop) : Nw := ⟨w.s0, w.s1, w.j, ⟨w.m.n, w.m.fr, fun k => drP (p k) (w.m.dr k), w.m.va, w.m.co⟩⟩
noncomputable def laiG (w : Nw) (p : Nat → Prop) : Prop := funH Try.prog (ctrs []) (inl Try.prog (ctrs []) none (ictrs []) 80 noL noL noX) (ictrs []) (oneL 0 { toLSpec := {
    σ := Nat, inv := fun z => z ≤ w.m.n, μ := fun z => w.m.n - z, nr := 3
    ms := fun _ X => match X.row 0 with
      | some R => (match R.f 0 with
        | .agg [_, _, _, .sl r _ _] => [some r]
        | _ => [])
      | none => []
    t := fun z => mkF 34 [(2, .ptr 0 0 0), (3, .ptr 1 0 0), (4, .ptr 2 0 0), (12, i6 w.m.n), (13, i6 z)]
    X := fun z => mkX [vr 4 (.agg [i6 w.s0, i6 w.s1, w.j.sv, .sl 3 0 w.m.n]), vr 8 (stV p), vr 4 (.agg [i6 0, i6 0, nilS, nilS]), rw' 4 w.m.n fun k => .agg [i6 (w.m.fr k), i6 ((wL w fun i => i < z ∧ p i).m.dr k), i6 (w.m.va k), i6 (w.m.co k)]]
    rd := fun _ _ k => ∃ z, k z
    rdOK := fun _ _ _ h => h } }) noL 90 [w.sv, stV p] (wL w p).sv
end Go.Proofs.Ytpannbkmpbioiaa

set_option maxRecDepth 100000
namespace Go.Proofs.Ytpannbkmpbioiaa
open Go Go.Lg
theorem setG_vc (b : Nat) : setG b = ((∃ (z : Nat), z ≤ (8 : Nat) ∧ (↑b : Int) = (↑b : Int) ∧ (0 : Nat) = (0 : Nat) ∧ (0 : Nat) = (0 : Nat) ∧ (0 : Nat) = (0 : Nat) ∧ (0 : Nat) = (0 : Nat) ∧ (0 : Int) = (↑z : Int) ∧ false = false ∧ false = false ∧ false = false ∧ false = false ∧ false = false ∧ false = false ∧ false = false ∧ false = false ∧ (false = true ↔ (0 : Nat) < z ∧ hs b (0 : Nat)) ∧ (false = true ↔ (1 : Nat) < z ∧ hs b (1 : Nat)) ∧ (false = true ↔ (2 : Nat) < z ∧ hs b (2 : Nat)) ∧ (false = true ↔ (3 : Nat) < z ∧ hs b (3 : Nat)) ∧ (false = true ↔ (4 : Nat) < z ∧ hs b (4 : Nat)) ∧ (false = true ↔ (5 : Nat) < z ∧ hs b (5 : Nat)) ∧ (false = true ↔ (6 : Nat) < z ∧ hs b (6 : Nat)) ∧ (false = true ↔ (7 : Nat) < z ∧ hs b (7 : Nat)) ∧ True) ∧ ∀ (z : Nat), z ≤ (8 : Nat) → ((↑z : Int) < (8 : Int) → ((0 : Int) ≤ (↑z : Int) ∧ (↑z : Int) ≤ (↑(64 : Nat) : Int)) ∧ (0 : Int) ≤ (↑z : Int) ∧ (↑z : Int) < (↑(8 : Nat) : Int) ∧ (0 : Nat) + (↑z : Int).toNat * (1 : Nat) < (8 : Nat) ∧ ((-9223372036854775808 : Int) ≤ (↑z : Int) + (1 : Int) ∧ (↑z : Int) + (1 : Int) ≤ (9223372036854775807 : Int)) ∧ ∃ (z_1 : Nat), z_1 ≤ (8 : Nat) ∧ (8 : Nat) - z_1 < (8 : Nat) - z ∧ (↑b : Int) = (↑b : Int) ∧ (0 : Nat) = (0 : Nat) ∧ (0 : Nat) = (0 : Nat) ∧ (0 : Nat) = (0 : Nat) ∧ (0 : Nat) = (0 : Nat) ∧ (↑z : Int) + (1 : Int) = (↑z_1 : Int) ∧ false = false ∧ false = false ∧ false = false ∧ false = false ∧ false = false ∧ false = false ∧ false = false ∧ false = false ∧ ((0 : Nat) + (↑z : Int).toNat * Try.prog.cellsOf (4 : Nat) = (0 : Nat) ∧ bitA IntKind.i64 ((↑b : Int).fdiv (shP (↑z : Int))) (1 : Int) = (1 : Int) ∨ ¬(0 : Nat) + (↑z : Int).toNat * Try.prog.cellsOf (4 : Nat) = (0 : Nat) ∧ decP (dP ((0 : Nat) < z ∧ hs b (0 : Nat))) ↔ (0 : Nat) < z_1 ∧ hs b (0 : Nat)) ∧
 ((0 : Nat) + (↑z : Int).toNat * Try.prog.cellsOf (4 : Nat) = (0 : Nat) + (1 : Nat) ∧ bitA IntKind.i64 ((↑b : Int).fdiv (shP (↑z : Int))) (1 : Int) = (1 : Int) ∨ ¬(0 : Nat) + (↑z : Int).toNat * Try.prog.cellsOf (4 : Nat) = (0 : Nat) + (1 : Nat) ∧ decP (dP ((1 : Nat) < z ∧ hs b (1 : Nat))) ↔ (1 : Nat) < z_1 ∧ hs b (1 : Nat)) ∧ ((0 : Nat) + (↑z : Int).toNat * Try.prog.cellsOf (4 : Nat) = (0 : Nat) + (1 : Nat) + (1 : Nat) ∧ bitA IntKind.i64 ((↑b : Int).fdiv (shP (↑z : Int))) (1 : Int) = (1 : Int) ∨ ¬(0 : Nat) + (↑z : Int).toNat * Try.prog.cellsOf (4 : Nat) = (0 : Nat) + (1 : Nat) + (1 : Nat) ∧ decP (dP ((2 : Nat) < z ∧ hs b (2 : Nat))) ↔ (2 : Nat) < z_1 ∧ hs b (2 : Nat)) ∧ ((0 : Nat) + (↑z : Int).toNat * Try.prog.cellsOf (4 : Nat) = (0 : Nat) + (1 : Nat) + (1 : Nat) + (1 : Nat) ∧ bitA IntKind.i64 ((↑b : Int).fdiv (shP (↑z : Int))) (1 : Int) = (1 : Int) ∨ ¬(0 : Nat) + (↑z : Int).toNat * Try.prog.cellsOf (4 : Nat) = (0 : Nat) + (1 : Nat) + (1 : Nat) + (1 : Nat) ∧ decP (dP ((3 : Nat) < z ∧ hs b (3 : Nat))) ↔ (3 : Nat) < z_1 ∧ hs b (3 : Nat)) ∧ ((0 : Nat) + (↑z : Int).toNat * Try.prog.cellsOf (4 : Nat) = (0 : Nat) + (1 : Nat) + (1 : Nat) + (1 : Nat) + (1 : Nat) ∧ bitA IntKind.i64 ((↑b : Int).fdiv (shP (↑z : Int))) (1 : Int) = (1 : Int) ∨ ¬(0 : Nat) + (↑z : Int).toNat * Try.prog.cellsOf (4 : Nat) = (0 : Nat) + (1 : Nat) + (1 : Nat) + (1 : Nat) + (1 : Nat) ∧ decP (dP ((4 : Nat) < z ∧ hs b (4 : Nat))) ↔ (4 : Nat) < z_1 ∧ hs b (4 : Nat)) ∧ ((0 : Nat) + (↑z : Int).toNat * Try.prog.cellsOf (4 : Nat) = (0 : Nat) + (1 : Nat) + (1 : Nat) + (1 : Nat) + (1 : Nat) + (1 : Nat) ∧ bitA IntKind.i64 ((↑b : Int).fdiv (shP (↑z : Int))) (1 : Int) = (1 : Int) ∨ ¬(0 : Nat) + (↑z : Int).toNat * Try.prog.cellsOf (4 : Nat) = (0 : Nat) + (1 : Nat) + (1 : Nat) + (1 : Nat) + (1 : Nat) + (1 : Nat) ∧
 decP (dP ((5 : Nat) < z ∧ hs b (5 : Nat))) ↔ (5 : Nat) < z_1 ∧ hs b (5 : Nat)) ∧ ((0 : Nat) + (↑z : Int).toNat * Try.prog.cellsOf (4 : Nat) = (0 : Nat) + (1 : Nat) + (1 : Nat) + (1 : Nat) + (1 : Nat) + (1 : Nat) + (1 : Nat) ∧ bitA IntKind.i64 ((↑b : Int).fdiv (shP (↑z : Int))) (1 : Int) = (1 : Int) ∨ ¬(0 : Nat) + (↑z : Int).toNat * Try.prog.cellsOf (4 : Nat) = (0 : Nat) + (1 : Nat) + (1 : Nat) + (1 : Nat) + (1 : Nat) + (1 : Nat) + (1 : Nat) ∧ decP (dP ((6 : Nat) < z ∧ hs b (6 : Nat))) ↔ (6 : Nat) < z_1 ∧ hs b (6 : Nat)) ∧ ((0 : Nat) + (↑z : Int).toNat * Try.prog.cellsOf (4 : Nat) = (0 : Nat) + (1 : Nat) + (1 : Nat) + (1 : Nat) + (1 : Nat) + (1 : Nat) + (1 : Nat) + (1 : Nat) ∧ bitA IntKind.i64 ((↑b : Int).fdiv (shP (↑z : Int))) (1 : Int) = (1 : Int) ∨ ¬(0 : Nat) + (↑z : Int).toNat * Try.prog.cellsOf (4 : Nat) = (0 : Nat) + (1 : Nat) + (1 : Nat) + (1 : Nat) + (1 : Nat) + (1 : Nat) + (1 : Nat) + (1 : Nat) ∧ decP (dP ((7 : Nat) < z ∧ hs b (7 : Nat))) ↔ (7 : Nat) < z_1 ∧ hs b (7 : Nat)) ∧ True) ∧ (¬(↑z : Int) < (8 : Int) → (0 : Nat) < (1 : Nat) ∧ (0 : Nat) < (1 : Nat) ∧ ((0 : Nat) < z ∧ hs b (0 : Nat) ↔ hs b (0 : Nat)) ∧ ((1 : Nat) < z ∧ hs b (1 : Nat) ↔ hs b (1 : Nat)) ∧ ((2 : Nat) < z ∧ hs b (2 : Nat) ↔ hs b (2 : Nat)) ∧ ((3 : Nat) < z ∧ hs b (3 : Nat) ↔ hs b (3 : Nat)) ∧ ((4 : Nat) < z ∧ hs b (4 : Nat) ↔ hs b (4 : Nat)) ∧ ((5 : Nat) < z ∧ hs b (5 : Nat) ↔ hs b (5 : Nat)) ∧ ((6 : Nat) < z ∧ hs b (6 : Nat) ↔ hs b (6 : Nat)) ∧ ((7 : Nat) < z ∧ hs b (7 : Nat) ↔ hs b (7 : Nat)) ∧ True)) := by kernel_rfl
theorem numG_vc (p : Nat → Prop) : numG p = ((0 : Nat) < (1 : Nat) ∧ (∃ (z : Nat), (z ≤ (8 : Nat) ∧ fiL p z = []) ∧ Value.slice none (0 : Nat) (0 : Nat) = Value.slice none (0 : Nat) (0 : Nat) ∧ (p (0 : Nat) ↔ p (0 : Nat)) ∧ (p (1 : Nat) ↔ p (1 : Nat)) ∧ (p (2 : Nat) ↔ p (2 : Nat)) ∧ (p (3 : Nat) ↔ p (3 : Nat)) ∧ (p (4 : Nat) ↔ p (4 : Nat)) ∧ (p (5 : Nat) ↔ p (5 : Nat)) ∧ (p (6 : Nat) ↔ p (6 : Nat)) ∧ (p (7 : Nat) ↔ p (7 : Nat)) ∧ (0 : Int) = (↑z : Int) ∧ (p (0 : Nat) ↔ p (0 : Nat)) ∧ (p (1 : Nat) ↔ p (1 : Nat)) ∧ (p (2 : Nat) ↔ p (2 : Nat)) ∧ (p (3 : Nat) ↔ p (3 : Nat)) ∧ (p (4 : Nat) ↔ p (4 : Nat)) ∧ (p (5 : Nat) ↔ p (5 : Nat)) ∧ (p (6 : Nat) ↔ p (6 : Nat)) ∧ (p (7 : Nat) ↔ p (7 : Nat)) ∧ True) ∧ (∀ (z : Nat), z ≤ (8 : Nat) ∧ fiL p z = [] → ((↑z : Int) < (8 : Int) → (0 : Int) ≤ (↑z : Int) ∧ (↑z : Int) < (↑(8 : Nat) : Int) ∧ (↑z : Int).toNat * (1 : Nat) < (8 : Nat) ∧ (cellD [dP (p (0 : Nat)), dP (p (1 : Nat)), dP (p (2 : Nat)), dP (p (3 : Nat)), dP (p (4 : Nat)), dP (p (5 : Nat)), dP (p (6 : Nat)), dP (p (7 : Nat))] ((↑z : Int).toNat * Try.prog.cellsOf (4 : Nat)) → True ∧ (∀ (i : Nat), i < (1 : Nat) → true = true) ∧ (1 : Nat) * (8 : Nat) ≤ (140737488355328 : Nat) ∧ (1 : Nat) ≤ (4611686018427387904 : Nat) ∧ ((-9223372036854775808 : Int) ≤ (↑z : Int) + (1 : Int) ∧ (↑z : Int) + (1 : Int) ≤ (9223372036854775807 : Int)) ∧ ∃ (z_1 : Nat), z_1 ≤ (8 : Nat) ∧ (8 : Nat) - z_1 < (8 : Nat) - z ∧ (0 : Nat) = (0 : Nat) ∧ (1 : Nat) = (fiL p z_1).length ∧ (p (0 : Nat) ↔ p (0 : Nat)) ∧ (p (1 : Nat) ↔ p (1 : Nat)) ∧ (p (2 : Nat) ↔ p (2 : Nat)) ∧ (p (3 : Nat) ↔ p (3 : Nat)) ∧ (p (4 : Nat) ↔ p (4 : Nat)) ∧ (p (5 : Nat) ↔ p (5 : Nat)) ∧ (p (6 : Nat) ↔ p (6 : Nat)) ∧ (p (7 : Nat) ↔ p (7 : Nat)) ∧ (↑z : Int) + (1 : Int) = (↑z_1 : Int) ∧ (p (0 : Nat) ↔ p (0 : Nat)) ∧
 (p (1 : Nat) ↔ p (1 : Nat)) ∧ (p (2 : Nat) ↔ p (2 : Nat)) ∧ (p (3 : Nat) ↔ p (3 : Nat)) ∧ (p (4 : Nat) ↔ p (4 : Nat)) ∧ (p (5 : Nat) ↔ p (5 : Nat)) ∧ (p (6 : Nat) ↔ p (6 : Nat)) ∧ (p (7 : Nat) ↔ p (7 : Nat)) ∧ (fiL p z_1).length = (1 : Nat) ∧ (∀ (i : Nat), i < (fiL p z_1).length → (1 : Nat) = (1 : Nat) ∧ (↑z : Int) = (↑((fiL p z_1).getD i (0 : Nat)) : Int) ∧ True) ∧ True) ∧ (¬cellD [dP (p (0 : Nat)), dP (p (1 : Nat)), dP (p (2 : Nat)), dP (p (3 : Nat)), dP (p (4 : Nat)), dP (p (5 : Nat)), dP (p (6 : Nat)), dP (p (7 : Nat))] ((↑z : Int).toNat * Try.prog.cellsOf (4 : Nat)) → ((-9223372036854775808 : Int) ≤ (↑z : Int) + (1 : Int) ∧ (↑z : Int) + (1 : Int) ≤ (9223372036854775807 : Int)) ∧ ∃ (z_1 : Nat), (z_1 ≤ (8 : Nat) ∧ fiL p z_1 = []) ∧ (8 : Nat) - z_1 < (8 : Nat) - z ∧ Value.slice none (0 : Nat) (0 : Nat) = Value.slice none (0 : Nat) (0 : Nat) ∧ (p (0 : Nat) ↔ p (0 : Nat)) ∧ (p (1 : Nat) ↔ p (1 : Nat)) ∧ (p (2 : Nat) ↔ p (2 : Nat)) ∧ (p (3 : Nat) ↔ p (3 : Nat)) ∧ (p (4 : Nat) ↔ p (4 : Nat)) ∧ (p (5 : Nat) ↔ p (5 : Nat)) ∧ (p (6 : Nat) ↔ p (6 : Nat)) ∧ (p (7 : Nat) ↔ p (7 : Nat)) ∧ (↑z : Int) + (1 : Int) = (↑z_1 : Int) ∧ (p (0 : Nat) ↔ p (0 : Nat)) ∧ (p (1 : Nat) ↔ p (1 : Nat)) ∧ (p (2 : Nat) ↔ p (2 : Nat)) ∧ (p (3 : Nat) ↔ p (3 : Nat)) ∧ (p (4 : Nat) ↔ p (4 : Nat)) ∧ (p (5 : Nat) ↔ p (5 : Nat)) ∧ (p (6 : Nat) ↔ p (6 : Nat)) ∧ (p (7 : Nat) ↔ p (7 : Nat)) ∧ True)) ∧ (¬(↑z : Int) < (8 : Int) → (0 : Nat) = (fiL p (8 : Nat)).length ∧ True)) ∧ ∀ (z : Nat), z ≤ (8 : Nat) → ((↑z : Int) < (8 : Int) → (0 : Int) ≤ (↑z : Int) ∧ (↑z : Int) < (↑(8 : Nat) : Int) ∧ (↑z : Int).toNat * (1 : Nat) < (8 : Nat) ∧ (cellD [dP (p (0 : Nat)), dP (p (1 : Nat)), dP (p (2 : Nat)), dP (p (3 : Nat)), dP (p (4 : Nat)), dP (p (5 : Nat)), dP (p (6 : Nat)), dP (p (7 : Nat))]
 ((↑z : Int).toNat * Try.prog.cellsOf (4 : Nat)) → True ∧ (∀ (i : Nat), i < (1 : Nat) → true = true) ∧ (0 : Nat) = (0 : Nat) ∧ (fiL p z).length = (fiL p z).length ∧ (∀ (i : Nat), true = true) ∧ ((fiL p z).length + (1 : Nat)) * (8 : Nat) ≤ (140737488355328 : Nat) ∧ (fiL p z).length + (1 : Nat) ≤ (4611686018427387904 : Nat) ∧ ((-9223372036854775808 : Int) ≤ (↑z : Int) + (1 : Int) ∧ (↑z : Int) + (1 : Int) ≤ (9223372036854775807 : Int)) ∧ ∃ (z_1 : Nat), z_1 ≤ (8 : Nat) ∧ (8 : Nat) - z_1 < (8 : Nat) - z ∧ (0 : Nat) = (0 : Nat) ∧ (fiL p z).length + (1 : Nat) = (fiL p z_1).length ∧ (p (0 : Nat) ↔ p (0 : Nat)) ∧ (p (1 : Nat) ↔ p (1 : Nat)) ∧ (p (2 : Nat) ↔ p (2 : Nat)) ∧ (p (3 : Nat) ↔ p (3 : Nat)) ∧ (p (4 : Nat) ↔ p (4 : Nat)) ∧ (p (5 : Nat) ↔ p (5 : Nat)) ∧ (p (6 : Nat) ↔ p (6 : Nat)) ∧ (p (7 : Nat) ↔ p (7 : Nat)) ∧ (↑z : Int) + (1 : Int) = (↑z_1 : Int) ∧ (p (0 : Nat) ↔ p (0 : Nat)) ∧ (p (1 : Nat) ↔ p (1 : Nat)) ∧ (p (2 : Nat) ↔ p (2 : Nat)) ∧ (p (3 : Nat) ↔ p (3 : Nat)) ∧ (p (4 : Nat) ↔ p (4 : Nat)) ∧ (p (5 : Nat) ↔ p (5 : Nat)) ∧ (p (6 : Nat) ↔ p (6 : Nat)) ∧ (p (7 : Nat) ↔ p (7 : Nat)) ∧ (fiL p z_1).length = (fiL p z).length + (1 : Nat) ∧ (∀ (i : Nat), i < (fiL p z_1).length → (1 : Nat) = (1 : Nat) ∧ (if i < (fiL p z).length then (↑((fiL p z).getD i (0 : Nat)) : Int) else (↑z : Int)) = (↑((fiL p z_1).getD i (0 : Nat)) : Int) ∧ True) ∧ True) ∧ (¬cellD [dP (p (0 : Nat)), dP (p (1 : Nat)), dP (p (2 : Nat)), dP (p (3 : Nat)), dP (p (4 : Nat)), dP (p (5 : Nat)), dP (p (6 : Nat)), dP (p (7 : Nat))] ((↑z : Int).toNat * Try.prog.cellsOf (4 : Nat)) → ((-9223372036854775808 : Int) ≤ (↑z : Int) + (1 : Int) ∧ (↑z : Int) + (1 : Int) ≤ (9223372036854775807 : Int)) ∧ ∃ (z_1 : Nat), z_1 ≤ (8 : Nat) ∧ (8 : Nat) - z_1 < (8 : Nat) - z ∧ (0 : Nat) = (0 : Nat) ∧
 (fiL p z).length = (fiL p z_1).length ∧ (p (0 : Nat) ↔ p (0 : Nat)) ∧ (p (1 : Nat) ↔ p (1 : Nat)) ∧ (p (2 : Nat) ↔ p (2 : Nat)) ∧ (p (3 : Nat) ↔ p (3 : Nat)) ∧ (p (4 : Nat) ↔ p (4 : Nat)) ∧ (p (5 : Nat) ↔ p (5 : Nat)) ∧ (p (6 : Nat) ↔ p (6 : Nat)) ∧ (p (7 : Nat) ↔ p (7 : Nat)) ∧ (↑z : Int) + (1 : Int) = (↑z_1 : Int) ∧ (p (0 : Nat) ↔ p (0 : Nat)) ∧ (p (1 : Nat) ↔ p (1 : Nat)) ∧ (p (2 : Nat) ↔ p (2 : Nat)) ∧ (p (3 : Nat) ↔ p (3 : Nat)) ∧ (p (4 : Nat) ↔ p (4 : Nat)) ∧ (p (5 : Nat) ↔ p (5 : Nat)) ∧ (p (6 : Nat) ↔ p (6 : Nat)) ∧ (p (7 : Nat) ↔ p (7 : Nat)) ∧ (fiL p z_1).length = (fiL p z).length ∧ (∀ (i : Nat), i < (fiL p z_1).length → (1 : Nat) = (1 : Nat) ∧ (↑((fiL p z).getD i (0 : Nat)) : Int) = (↑((fiL p z_1).getD i (0 : Nat)) : Int) ∧ True) ∧ True)) ∧ (¬(↑z : Int) < (8 : Int) → (fiL p z).length = (fiL p (8 : Nat)).length ∧ (0 : Nat) + (fiL p (8 : Nat)).length ≤ (fiL p z).length ∧ (∀ (i : Nat), i < (fiL p (8 : Nat)).length → (1 : Nat) = (1 : Nat) ∧ (1 : Nat) = (1 : Nat) ∧ (↑((fiL p z).getD (i + (0 : Nat)) (0 : Nat)) : Int) = (↑((fiL p (8 : Nat)).getD i (0 : Nat)) : Int) ∧ True) ∧ True)) := by kernel_rfl
theorem cosG_vc (m : Mn) (p : Nat → Prop) : cosG m p = ((∃ (z : Nat), z ≤ m.1 ∧ (0 : Nat) = (0 : Nat) ∧ (0 : Nat) = (0 : Nat) ∧ (0 : Int) = cosN m p z ∧ m.1 = m.1 ∧ (∀ (i : Nat), i < m.1 → (SV.agg [i6 (m.fr i), i6 (m.dr i), i6 (m.va i), i6 (m.co i)]).den = (SV.agg [i6 (m.fr i), i6 (m.dr i), i6 (m.va i), i6 (m.co i)]).den ∧ True ∧ True ∧ True ∧ True ∧ True) ∧ (↑m.1 : Int) = (↑m.1 : Int) ∧ (0 : Int) = (↑z : Int) ∧ (p (0 : Nat) ↔ p (0 : Nat)) ∧ (p (1 : Nat) ↔ p (1 : Nat)) ∧ (p (2 : Nat) ↔ p (2 : Nat)) ∧ (p (3 : Nat) ↔ p (3 : Nat)) ∧ (p (4 : Nat) ↔ p (4 : Nat)) ∧ (p (5 : Nat) ↔ p (5 : Nat)) ∧ (p (6 : Nat) ↔ p (6 : Nat)) ∧ (p (7 : Nat) ↔ p (7 : Nat)) ∧ True) ∧ ∀ (z : Nat), z ≤ m.1 → ((↑z : Int) < (↑m.1 : Int) → (0 : Int) ≤ (↑z : Int) ∧ (↑z : Int) < (↑m.1 : Int) ∧ (0 : Int) ≤ (↑z : Int) ∧ (↑z : Int) < (↑(8 : Nat) : Int) ∧ (0 : Nat) < (1 : Nat) ∧ (0 : Nat) + (↑z : Int).toNat * (1 : Nat) < (8 : Nat) ∧ (cellD (stV p).cells ((0 : Nat) + (↑z : Int).toNat * Try.prog.cellsOf (4 : Nat)) → (0 : Nat) < (1 : Nat) ∧ ((-9223372036854775808 : Int) ≤ cosN m p z + m.5 (↑z : Int).toNat ∧ cosN m p z + m.5 (↑z : Int).toNat ≤ (9223372036854775807 : Int)) ∧ ((-9223372036854775808 : Int) ≤ (↑z : Int) + (1 : Int) ∧ (↑z : Int) + (1 : Int) ≤ (9223372036854775807 : Int)) ∧ ∃ (z_1 : Nat), z_1 ≤ m.1 ∧ m.1 - z_1 < m.1 - z ∧ (0 : Nat) = (0 : Nat) ∧ (0 : Nat) = (0 : Nat) ∧ cosN m p z + m.5 (↑z : Int).toNat = cosN m p z_1 ∧ m.1 = m.1 ∧ (∀ (i : Nat), i < m.1 → (SV.agg [i6 (m.fr i), i6 (m.dr i), i6 (m.va i), i6 (m.co i)]).den = (SV.agg [i6 (m.fr i), i6 (m.dr i), i6 (m.va i), i6 (m.co i)]).den ∧ True ∧ True ∧ True ∧ True ∧ True) ∧ (↑m.1 : Int) = (↑m.1 : Int) ∧ (↑z : Int) + (1 : Int) = (↑z_1 : Int) ∧ (p (0 : Nat) ↔ p (0 : Nat)) ∧ (p (1 : Nat) ↔ p (1 : Nat)) ∧ (p (2 : Nat) ↔ p (2 : Nat)) ∧
 (p (3 : Nat) ↔ p (3 : Nat)) ∧ (p (4 : Nat) ↔ p (4 : Nat)) ∧ (p (5 : Nat) ↔ p (5 : Nat)) ∧ (p (6 : Nat) ↔ p (6 : Nat)) ∧ (p (7 : Nat) ↔ p (7 : Nat)) ∧ True) ∧ (¬cellD (stV p).cells ((0 : Nat) + (↑z : Int).toNat * Try.prog.cellsOf (4 : Nat)) → ((-9223372036854775808 : Int) ≤ (↑z : Int) + (1 : Int) ∧ (↑z : Int) + (1 : Int) ≤ (9223372036854775807 : Int)) ∧ ∃ (z_1 : Nat), z_1 ≤ m.1 ∧ m.1 - z_1 < m.1 - z ∧ (0 : Nat) = (0 : Nat) ∧ (0 : Nat) = (0 : Nat) ∧ cosN m p z = cosN m p z_1 ∧ m.1 = m.1 ∧ (∀ (i : Nat), i < m.1 → (SV.agg [i6 (m.fr i), i6 (m.dr i), i6 (m.va i), i6 (m.co i)]).den = (SV.agg [i6 (m.fr i), i6 (m.dr i), i6 (m.va i), i6 (m.co i)]).den ∧ True ∧ True ∧ True ∧ True ∧ True) ∧ (↑m.1 : Int) = (↑m.1 : Int) ∧ (↑z : Int) + (1 : Int) = (↑z_1 : Int) ∧ (p (0 : Nat) ↔ p (0 : Nat)) ∧ (p (1 : Nat) ↔ p (1 : Nat)) ∧ (p (2 : Nat) ↔ p (2 : Nat)) ∧ (p (3 : Nat) ↔ p (3 : Nat)) ∧ (p (4 : Nat) ↔ p (4 : Nat)) ∧ (p (5 : Nat) ↔ p (5 : Nat)) ∧ (p (6 : Nat) ↔ p (6 : Nat)) ∧ (p (7 : Nat) ↔ p (7 : Nat)) ∧ True)) ∧ (¬(↑z : Int) < (↑m.1 : Int) → cosN m p z = cosN m p m.1 ∧ True)) := by kernel_rfl
theorem andG_vc (p : Nat → Prop) (q : Nat → Prop) : andG p q = ((∃ (z : Nat), z ≤ (8 : Nat) ∧ (0 : Nat) = (0 : Nat) ∧ (0 : Nat) = (0 : Nat) ∧ (0 : Nat) = (0 : Nat) ∧ (0 : Nat) = (0 : Nat) ∧ (0 : Nat) = (0 : Nat) ∧ (0 : Nat) = (0 : Nat) ∧ (0 : Int) = (↑z : Int) ∧ (p (0 : Nat) ↔ p (0 : Nat) ∧ ((0 : Nat) < z → q (0 : Nat))) ∧ (p (1 : Nat) ↔ p (1 : Nat) ∧ ((1 : Nat) < z → q (1 : Nat))) ∧ (p (2 : Nat) ↔ p (2 : Nat) ∧ ((2 : Nat) < z → q (2 : Nat))) ∧ (p (3 : Nat) ↔ p (3 : Nat) ∧ ((3 : Nat) < z → q (3 : Nat))) ∧ (p (4 : Nat) ↔ p (4 : Nat) ∧ ((4 : Nat) < z → q (4 : Nat))) ∧ (p (5 : Nat) ↔ p (5 : Nat) ∧ ((5 : Nat) < z → q (5 : Nat))) ∧ (p (6 : Nat) ↔ p (6 : Nat) ∧ ((6 : Nat) < z → q (6 : Nat))) ∧ (p (7 : Nat) ↔ p (7 : Nat) ∧ ((7 : Nat) < z → q (7 : Nat))) ∧ (q (0 : Nat) ↔ q (0 : Nat)) ∧ (q (1 : Nat) ↔ q (1 : Nat)) ∧ (q (2 : Nat) ↔ q (2 : Nat)) ∧ (q (3 : Nat) ↔ q (3 : Nat)) ∧ (q (4 : Nat) ↔ q (4 : Nat)) ∧ (q (5 : Nat) ↔ q (5 : Nat)) ∧ (q (6 : Nat) ↔ q (6 : Nat)) ∧ (q (7 : Nat) ↔ q (7 : Nat)) ∧ false = false ∧ false = false ∧ false = false ∧ false = false ∧ false = false ∧ false = false ∧ false = false ∧ false = false ∧ True) ∧ ∀ (z : Nat), z ≤ (8 : Nat) → ((↑z : Int) < (8 : Int) → (0 : Int) ≤ (↑z : Int) ∧ (↑z : Int) < (↑(8 : Nat) : Int) ∧ (0 : Nat) < (1 : Nat) ∧ (0 : Nat) + (↑z : Int).toNat * (1 : Nat) < (8 : Nat) ∧ (cellD (stV fun (i : Nat) => p i ∧ (i < z → q i)).cells ((0 : Nat) + (↑z : Int).toNat * Try.prog.cellsOf (4 : Nat)) → (0 : Int) ≤ (↑z : Int) ∧ (↑z : Int) < (↑(8 : Nat) : Int) ∧ (0 : Nat) < (1 : Nat) ∧ (0 : Nat) + (↑z : Int).toNat * (1 : Nat) < (8 : Nat) ∧ (0 : Int) ≤ (↑z : Int) ∧ (↑z : Int) < (↑(8 : Nat) : Int) ∧ (0 : Nat) + (↑z : Int).toNat * (1 : Nat) < (8 : Nat) ∧ ((-9223372036854775808 : Int) ≤ (↑z : Int) + (1 : Int) ∧
 (↑z : Int) + (1 : Int) ≤ (9223372036854775807 : Int)) ∧ ∃ (z_1 : Nat), z_1 ≤ (8 : Nat) ∧ (8 : Nat) - z_1 < (8 : Nat) - z ∧ (0 : Nat) = (0 : Nat) ∧ (0 : Nat) = (0 : Nat) ∧ (0 : Nat) = (0 : Nat) ∧ (0 : Nat) = (0 : Nat) ∧ (0 : Nat) = (0 : Nat) ∧ (0 : Nat) = (0 : Nat) ∧ (↑z : Int) + (1 : Int) = (↑z_1 : Int) ∧ ((0 : Nat) + (↑z : Int).toNat * Try.prog.cellsOf (4 : Nat) = (0 : Nat) ∧ cellD (stV q).cells ((0 : Nat) + (↑z : Int).toNat * Try.prog.cellsOf (4 : Nat)) ∨ ¬(0 : Nat) + (↑z : Int).toNat * Try.prog.cellsOf (4 : Nat) = (0 : Nat) ∧ decP (dP (p (0 : Nat) ∧ ((0 : Nat) < z → q (0 : Nat)))) ↔ p (0 : Nat) ∧ ((0 : Nat) < z_1 → q (0 : Nat))) ∧ ((0 : Nat) + (↑z : Int).toNat * Try.prog.cellsOf (4 : Nat) = (0 : Nat) + (1 : Nat) ∧ cellD (stV q).cells ((0 : Nat) + (↑z : Int).toNat * Try.prog.cellsOf (4 : Nat)) ∨ ¬(0 : Nat) + (↑z : Int).toNat * Try.prog.cellsOf (4 : Nat) = (0 : Nat) + (1 : Nat) ∧ decP (dP (p (1 : Nat) ∧ ((1 : Nat) < z → q (1 : Nat)))) ↔ p (1 : Nat) ∧ ((1 : Nat) < z_1 → q (1 : Nat))) ∧ ((0 : Nat) + (↑z : Int).toNat * Try.prog.cellsOf (4 : Nat) = (0 : Nat) + (1 : Nat) + (1 : Nat) ∧ cellD (stV q).cells ((0 : Nat) + (↑z : Int).toNat * Try.prog.cellsOf (4 : Nat)) ∨ ¬(0 : Nat) + (↑z : Int).toNat * Try.prog.cellsOf (4 : Nat) = (0 : Nat) + (1 : Nat) + (1 : Nat) ∧ decP (dP (p (2 : Nat) ∧ ((2 : Nat) < z → q (2 : Nat)))) ↔ p (2 : Nat) ∧ ((2 : Nat) < z_1 → q (2 : Nat))) ∧ ((0 : Nat) + (↑z : Int).toNat * Try.prog.cellsOf (4 : Nat) = (0 : Nat) + (1 : Nat) + (1 : Nat) + (1 : Nat) ∧ cellD (stV q).cells ((0 : Nat) + (↑z : Int).toNat * Try.prog.cellsOf (4 : Nat)) ∨ ¬(0 : Nat) + (↑z : Int).toNat * Try.prog.cellsOf (4 : Nat) = (0 : Nat) + (1 : Nat) + (1 : Nat) + (1 : Nat) ∧ decP (dP (p (3 : Nat) ∧ ((3 : Nat) < z → q (3 : Nat)))) ↔ p (3 : Nat) ∧ ((3 : Nat) < z_1 → q (3 : Nat))) ∧
 ((0 : Nat) + (↑z : Int).toNat * Try.prog.cellsOf (4 : Nat) = (0 : Nat) + (1 : Nat) + (1 : Nat) + (1 : Nat) + (1 : Nat) ∧ cellD (stV q).cells ((0 : Nat) + (↑z : Int).toNat * Try.prog.cellsOf (4 : Nat)) ∨ ¬(0 : Nat) + (↑z : Int).toNat * Try.prog.cellsOf (4 : Nat) = (0 : Nat) + (1 : Nat) + (1 : Nat) + (1 : Nat) + (1 : Nat) ∧ decP (dP (p (4 : Nat) ∧ ((4 : Nat) < z → q (4 : Nat)))) ↔ p (4 : Nat) ∧ ((4 : Nat) < z_1 → q (4 : Nat))) ∧ ((0 : Nat) + (↑z : Int).toNat * Try.prog.cellsOf (4 : Nat) = (0 : Nat) + (1 : Nat) + (1 : Nat) + (1 : Nat) + (1 : Nat) + (1 : Nat) ∧ cellD (stV q).cells ((0 : Nat) + (↑z : Int).toNat * Try.prog.cellsOf (4 : Nat)) ∨ ¬(0 : Nat) + (↑z : Int).toNat * Try.prog.cellsOf (4 : Nat) = (0 : Nat) + (1 : Nat) + (1 : Nat) + (1 : Nat) + (1 : Nat) + (1 : Nat) ∧ decP (dP (p (5 : Nat) ∧ ((5 : Nat) < z → q (5 : Nat)))) ↔ p (5 : Nat) ∧ ((5 : Nat) < z_1 → q (5 : Nat))) ∧ ((0 : Nat) + (↑z : Int).toNat * Try.prog.cellsOf (4 : Nat) = (0 : Nat) + (1 : Nat) + (1 : Nat) + (1 : Nat) + (1 : Nat) + (1 : Nat) + (1 : Nat) ∧ cellD (stV q).cells ((0 : Nat) + (↑z : Int).toNat * Try.prog.cellsOf (4 : Nat)) ∨ ¬(0 : Nat) + (↑z : Int).toNat * Try.prog.cellsOf (4 : Nat) = (0 : Nat) + (1 : Nat) + (1 : Nat) + (1 : Nat) + (1 : Nat) + (1 : Nat) + (1 : Nat) ∧ decP (dP (p (6 : Nat) ∧ ((6 : Nat) < z → q (6 : Nat)))) ↔ p (6 : Nat) ∧ ((6 : Nat) < z_1 → q (6 : Nat))) ∧ ((0 : Nat) + (↑z : Int).toNat * Try.prog.cellsOf (4 : Nat) = (0 : Nat) + (1 : Nat) + (1 : Nat) + (1 : Nat) + (1 : Nat) + (1 : Nat) + (1 : Nat) + (1 : Nat) ∧ cellD (stV q).cells ((0 : Nat) + (↑z : Int).toNat * Try.prog.cellsOf (4 : Nat)) ∨ ¬(0 : Nat) + (↑z : Int).toNat * Try.prog.cellsOf (4 : Nat) = (0 : Nat) + (1 : Nat) + (1 : Nat) + (1 : Nat) + (1 : Nat) + (1 : Nat) + (1 : Nat) + (1 : Nat) ∧ decP (dP (p (7 : Nat) ∧
 ((7 : Nat) < z → q (7 : Nat)))) ↔ p (7 : Nat) ∧ ((7 : Nat) < z_1 → q (7 : Nat))) ∧ (q (0 : Nat) ↔ q (0 : Nat)) ∧ (q (1 : Nat) ↔ q (1 : Nat)) ∧ (q (2 : Nat) ↔ q (2 : Nat)) ∧ (q (3 : Nat) ↔ q (3 : Nat)) ∧ (q (4 : Nat) ↔ q (4 : Nat)) ∧ (q (5 : Nat) ↔ q (5 : Nat)) ∧ (q (6 : Nat) ↔ q (6 : Nat)) ∧ (q (7 : Nat) ↔ q (7 : Nat)) ∧ false = false ∧ false = false ∧ false = false ∧ false = false ∧ false = false ∧ false = false ∧ false = false ∧ false = false ∧ True) ∧ (¬cellD (stV fun (i : Nat) => p i ∧ (i < z → q i)).cells ((0 : Nat) + (↑z : Int).toNat * Try.prog.cellsOf (4 : Nat)) → (0 : Int) ≤ (↑z : Int) ∧ (↑z : Int) < (↑(8 : Nat) : Int) ∧ (0 : Nat) + (↑z : Int).toNat * (1 : Nat) < (8 : Nat) ∧ ((-9223372036854775808 : Int) ≤ (↑z : Int) + (1 : Int) ∧ (↑z : Int) + (1 : Int) ≤ (9223372036854775807 : Int)) ∧ ∃ (z_1 : Nat), z_1 ≤ (8 : Nat) ∧ (8 : Nat) - z_1 < (8 : Nat) - z ∧ (0 : Nat) = (0 : Nat) ∧ (0 : Nat) = (0 : Nat) ∧ (0 : Nat) = (0 : Nat) ∧ (0 : Nat) = (0 : Nat) ∧ (0 : Nat) = (0 : Nat) ∧ (0 : Nat) = (0 : Nat) ∧ (↑z : Int) + (1 : Int) = (↑z_1 : Int) ∧ ((0 : Nat) + (↑z : Int).toNat * Try.prog.cellsOf (4 : Nat) = (0 : Nat) ∧ false = true ∨ ¬(0 : Nat) + (↑z : Int).toNat * Try.prog.cellsOf (4 : Nat) = (0 : Nat) ∧ decP (dP (p (0 : Nat) ∧ ((0 : Nat) < z → q (0 : Nat)))) ↔ p (0 : Nat) ∧ ((0 : Nat) < z_1 → q (0 : Nat))) ∧ ((0 : Nat) + (↑z : Int).toNat * Try.prog.cellsOf (4 : Nat) = (0 : Nat) + (1 : Nat) ∧ false = true ∨ ¬(0 : Nat) + (↑z : Int).toNat * Try.prog.cellsOf (4 : Nat) = (0 : Nat) + (1 : Nat) ∧ decP (dP (p (1 : Nat) ∧ ((1 : Nat) < z → q (1 : Nat)))) ↔ p (1 : Nat) ∧ ((1 : Nat) < z_1 → q (1 : Nat))) ∧ ((0 : Nat) + (↑z : Int).toNat * Try.prog.cellsOf (4 : Nat) = (0 : Nat) + (1 : Nat) + (1 : Nat) ∧ false = true ∨ ¬(0 : Nat) + (↑z : Int).toNat * Try.prog.cellsOf (4 : Nat) =
 (0 : Nat) + (1 : Nat) + (1 : Nat) ∧ decP (dP (p (2 : Nat) ∧ ((2 : Nat) < z → q (2 : Nat)))) ↔ p (2 : Nat) ∧ ((2 : Nat) < z_1 → q (2 : Nat))) ∧ ((0 : Nat) + (↑z : Int).toNat * Try.prog.cellsOf (4 : Nat) = (0 : Nat) + (1 : Nat) + (1 : Nat) + (1 : Nat) ∧ false = true ∨ ¬(0 : Nat) + (↑z : Int).toNat * Try.prog.cellsOf (4 : Nat) = (0 : Nat) + (1 : Nat) + (1 : Nat) + (1 : Nat) ∧ decP (dP (p (3 : Nat) ∧ ((3 : Nat) < z → q (3 : Nat)))) ↔ p (3 : Nat) ∧ ((3 : Nat) < z_1 → q (3 : Nat))) ∧ ((0 : Nat) + (↑z : Int).toNat * Try.prog.cellsOf (4 : Nat) = (0 : Nat) + (1 : Nat) + (1 : Nat) + (1 : Nat) + (1 : Nat) ∧ false = true ∨ ¬(0 : Nat) + (↑z : Int).toNat * Try.prog.cellsOf (4 : Nat) = (0 : Nat) + (1 : Nat) + (1 : Nat) + (1 : Nat) + (1 : Nat) ∧ decP (dP (p (4 : Nat) ∧ ((4 : Nat) < z → q (4 : Nat)))) ↔ p (4 : Nat) ∧ ((4 : Nat) < z_1 → q (4 : Nat))) ∧ ((0 : Nat) + (↑z : Int).toNat * Try.prog.cellsOf (4 : Nat) = (0 : Nat) + (1 : Nat) + (1 : Nat) + (1 : Nat) + (1 : Nat) + (1 : Nat) ∧ false = true ∨ ¬(0 : Nat) + (↑z : Int).toNat * Try.prog.cellsOf (4 : Nat) = (0 : Nat) + (1 : Nat) + (1 : Nat) + (1 : Nat) + (1 : Nat) + (1 : Nat) ∧ decP (dP (p (5 : Nat) ∧ ((5 : Nat) < z → q (5 : Nat)))) ↔ p (5 : Nat) ∧ ((5 : Nat) < z_1 → q (5 : Nat))) ∧ ((0 : Nat) + (↑z : Int).toNat * Try.prog.cellsOf (4 : Nat) = (0 : Nat) + (1 : Nat) + (1 : Nat) + (1 : Nat) + (1 : Nat) + (1 : Nat) + (1 : Nat) ∧ false = true ∨ ¬(0 : Nat) + (↑z : Int).toNat * Try.prog.cellsOf (4 : Nat) = (0 : Nat) + (1 : Nat) + (1 : Nat) + (1 : Nat) + (1 : Nat) + (1 : Nat) + (1 : Nat) ∧ decP (dP (p (6 : Nat) ∧ ((6 : Nat) < z → q (6 : Nat)))) ↔ p (6 : Nat) ∧ ((6 : Nat) < z_1 → q (6 : Nat))) ∧ ((0 : Nat) + (↑z : Int).toNat * Try.prog.cellsOf (4 : Nat) = (0 : Nat) + (1 : Nat) + (1 : Nat) + (1 : Nat) + (1 : Nat) + (1 : Nat) + (1 : Nat) +
 (1 : Nat) ∧ false = true ∨ ¬(0 : Nat) + (↑z : Int).toNat * Try.prog.cellsOf (4 : Nat) = (0 : Nat) + (1 : Nat) + (1 : Nat) + (1 : Nat) + (1 : Nat) + (1 : Nat) + (1 : Nat) + (1 : Nat) ∧ decP (dP (p (7 : Nat) ∧ ((7 : Nat) < z → q (7 : Nat)))) ↔ p (7 : Nat) ∧ ((7 : Nat) < z_1 → q (7 : Nat))) ∧ (q (0 : Nat) ↔ q (0 : Nat)) ∧ (q (1 : Nat) ↔ q (1 : Nat)) ∧ (q (2 : Nat) ↔ q (2 : Nat)) ∧ (q (3 : Nat) ↔ q (3 : Nat)) ∧ (q (4 : Nat) ↔ q (4 : Nat)) ∧ (q (5 : Nat) ↔ q (5 : Nat)) ∧ (q (6 : Nat) ↔ q (6 : Nat)) ∧ (q (7 : Nat) ↔ q (7 : Nat)) ∧ false = false ∧ false = false ∧ false = false ∧ false = false ∧ false = false ∧ false = false ∧ false = false ∧ false = false ∧ True)) ∧ (¬(↑z : Int) < (8 : Int) → (0 : Nat) < (1 : Nat) ∧ (0 : Nat) < (1 : Nat) ∧ (p (0 : Nat) ∧ ((0 : Nat) < z → q (0 : Nat)) ↔ p (0 : Nat) ∧ q (0 : Nat)) ∧ (p (1 : Nat) ∧ ((1 : Nat) < z → q (1 : Nat)) ↔ p (1 : Nat) ∧ q (1 : Nat)) ∧ (p (2 : Nat) ∧ ((2 : Nat) < z → q (2 : Nat)) ↔ p (2 : Nat) ∧ q (2 : Nat)) ∧ (p (3 : Nat) ∧ ((3 : Nat) < z → q (3 : Nat)) ↔ p (3 : Nat) ∧ q (3 : Nat)) ∧ (p (4 : Nat) ∧ ((4 : Nat) < z → q (4 : Nat)) ↔ p (4 : Nat) ∧ q (4 : Nat)) ∧ (p (5 : Nat) ∧ ((5 : Nat) < z → q (5 : Nat)) ↔ p (5 : Nat) ∧ q (5 : Nat)) ∧ (p (6 : Nat) ∧ ((6 : Nat) < z → q (6 : Nat)) ↔ p (6 : Nat) ∧ q (6 : Nat)) ∧ (p (7 : Nat) ∧ ((7 : Nat) < z → q (7 : Nat)) ↔ p (7 : Nat) ∧ q (7 : Nat)) ∧ True)) := by kernel_rfl
theorem laiG_vc (w : Nw) (p : Nat → Prop) : laiG w p = ((0 : Nat) < (1 : Nat) ∧ (0 : Int) ≤ (↑w.m.1 : Int) ∧ (↑w.m.1 : Int) ≤ (↑w.m.1 : Int) ∧ (↑w.m.1 : Int) ≤ (1048576 : Int) ∧ (↑w.m.1 : Int) * (↑(32 : Nat) : Int) ≤ (140737488355328 : Int) ∧ (0 : Nat) = (0 : Nat) ∧ (↑w.m.1 : Int).toNat = (↑w.m.1 : Int).toNat ∧ w.m.1 = (↑w.m.1 : Int).toNat ∧ (∀ (i : Nat), i < w.m.1 → true = true) ∧ (0 : Nat) < (1 : Nat) ∧ (∃ (z : Nat), z ≤ w.m.1 ∧ (0 : Nat) = (0 : Nat) ∧ (0 : Nat) = (0 : Nat) ∧ (0 : Nat) = (0 : Nat) ∧ (0 : Nat) = (0 : Nat) ∧ (0 : Nat) = (0 : Nat) ∧ (0 : Nat) = (0 : Nat) ∧ (↑(↑w.m.1 : Int).toNat : Int) = (↑w.m.1 : Int) ∧ (0 : Int) = (↑z : Int) ∧ w.1 = w.1 ∧ w.2 = w.2 ∧ w.j.1 = w.j.1 ∧ (∀ (i : Nat), i < w.j.1 → (SV.agg [i6 (w.j.nl i), i6 (w.j.nh i), i6 (w.j.le i), i6 (w.j.mo i), i6 (w.j.go i)]).den = (SV.agg [i6 (w.j.nl i), i6 (w.j.nh i), i6 (w.j.le i), i6 (w.j.mo i), i6 (w.j.go i)]).den ∧ True ∧ True ∧ True ∧ True ∧ True ∧ True) ∧ (0 : Nat) = (0 : Nat) ∧ (↑w.m.1 : Int).toNat = w.m.1 ∧ (p (0 : Nat) ↔ p (0 : Nat)) ∧ (p (1 : Nat) ↔ p (1 : Nat)) ∧ (p (2 : Nat) ↔ p (2 : Nat)) ∧ (p (3 : Nat) ↔ p (3 : Nat)) ∧ (p (4 : Nat) ↔ p (4 : Nat)) ∧ (p (5 : Nat) ↔ p (5 : Nat)) ∧ (p (6 : Nat) ↔ p (6 : Nat)) ∧ (p (7 : Nat) ↔ p (7 : Nat)) ∧ (0 : Int) = (0 : Int) ∧ (0 : Int) = (0 : Int) ∧ Value.slice none (0 : Nat) (0 : Nat) = Value.slice none (0 : Nat) (0 : Nat) ∧ Value.slice none (0 : Nat) (0 : Nat) = Value.slice none (0 : Nat) (0 : Nat) ∧ w.m.1 = w.m.1 ∧ (∀ (i : Nat), i < w.m.1 → (4 : Nat) = (4 : Nat) ∧ w.m.2 i = w.m.2 i ∧ w.m.3 i = drP (i < z ∧ p i) (w.m.3 i) ∧ w.m.4 i = w.m.4 i ∧ w.m.5 i = w.m.5 i ∧ True) ∧ True) ∧ ∀ (z : Nat), z ≤ w.m.1 → ((↑z : Int) < (↑w.m.1 : Int) → (0 : Int) ≤ (↑z : Int) ∧ (↑z : Int) < (↑(8 : Nat) : Int) ∧ (0 : Nat) < (1 : Nat) ∧
 (0 : Nat) + (↑z : Int).toNat * (1 : Nat) < (8 : Nat) ∧ (cellD (stV p).cells ((0 : Nat) + (↑z : Int).toNat * Try.prog.cellsOf (4 : Nat)) → (0 : Nat) < (1 : Nat) ∧ (0 : Nat) < (1 : Nat) ∧ (0 : Int) ≤ (↑z : Int) ∧ (↑z : Int) < (↑w.m.1 : Int) ∧ (0 : Nat) + (↑z : Int).toNat < w.m.1 ∧ ((-9223372036854775808 : Int) ≤ drP ((0 : Nat) + (↑z : Int).toNat < z ∧ p ((0 : Nat) + (↑z : Int).toNat)) (w.m.3 ((0 : Nat) + (↑z : Int).toNat)) + (1 : Int) ∧ drP ((0 : Nat) + (↑z : Int).toNat < z ∧ p ((0 : Nat) + (↑z : Int).toNat)) (w.m.3 ((0 : Nat) + (↑z : Int).toNat)) + (1 : Int) ≤ (9223372036854775807 : Int)) ∧ ((2 : Int) = (0 : Int) → False) ∧ ((-9223372036854775808 : Int) ≤ (drP ((0 : Nat) + (↑z : Int).toNat < z ∧ p ((0 : Nat) + (↑z : Int).toNat)) (w.m.3 ((0 : Nat) + (↑z : Int).toNat)) + (1 : Int)).tdiv (2 : Int) ∧ (drP ((0 : Nat) + (↑z : Int).toNat < z ∧ p ((0 : Nat) + (↑z : Int).toNat)) (w.m.3 ((0 : Nat) + (↑z : Int).toNat)) + (1 : Int)).tdiv (2 : Int) ≤ (9223372036854775807 : Int)) ∧ (0 : Int) ≤ (↑z : Int) ∧ (↑z : Int) < (↑w.m.1 : Int) ∧ (1 : Nat) + (1 : Nat) ≤ (4 : Nat) ∧ (0 : Nat) + (↑z : Int).toNat < w.m.1 ∧ (∀ (i' : Nat), true = true) ∧ ((-9223372036854775808 : Int) ≤ (↑z : Int) + (1 : Int) ∧ (↑z : Int) + (1 : Int) ≤ (9223372036854775807 : Int)) ∧ ∃ (z_1 : Nat), z_1 ≤ w.m.1 ∧ w.m.1 - z_1 < w.m.1 - z ∧ (0 : Nat) = (0 : Nat) ∧ (0 : Nat) = (0 : Nat) ∧ (0 : Nat) = (0 : Nat) ∧ (0 : Nat) = (0 : Nat) ∧ (0 : Nat) = (0 : Nat) ∧ (0 : Nat) = (0 : Nat) ∧ (↑w.m.1 : Int) = (↑w.m.1 : Int) ∧ (↑z : Int) + (1 : Int) = (↑z_1 : Int) ∧ w.1 = w.1 ∧ w.2 = w.2 ∧ w.j.1 = w.j.1 ∧ (∀ (i : Nat), i < w.j.1 → (SV.agg [i6 (w.j.nl i), i6 (w.j.nh i), i6 (w.j.le i), i6 (w.j.mo i), i6 (w.j.go i)]).den = (SV.agg [i6 (w.j.nl i), i6 (w.j.nh i), i6 (w.j.le i), i6 (w.j.mo i), i6 (w.j.go i)]).den ∧ True ∧ True ∧ True ∧
 True ∧ True ∧ True) ∧ (0 : Nat) = (0 : Nat) ∧ w.m.1 = w.m.1 ∧ (p (0 : Nat) ↔ p (0 : Nat)) ∧ (p (1 : Nat) ↔ p (1 : Nat)) ∧ (p (2 : Nat) ↔ p (2 : Nat)) ∧ (p (3 : Nat) ↔ p (3 : Nat)) ∧ (p (4 : Nat) ↔ p (4 : Nat)) ∧ (p (5 : Nat) ↔ p (5 : Nat)) ∧ (p (6 : Nat) ↔ p (6 : Nat)) ∧ (p (7 : Nat) ↔ p (7 : Nat)) ∧ (0 : Int) = (0 : Int) ∧ (0 : Int) = (0 : Int) ∧ Value.slice none (0 : Nat) (0 : Nat) = Value.slice none (0 : Nat) (0 : Nat) ∧ Value.slice none (0 : Nat) (0 : Nat) = Value.slice none (0 : Nat) (0 : Nat) ∧ w.m.1 = w.m.1 ∧ (∀ (i : Nat), i < w.m.1 → (4 : Nat) = (4 : Nat) ∧ (if i = (0 : Nat) + (↑z : Int).toNat then w.m.2 i else w.m.2 i) = w.m.2 i ∧ (if i = (0 : Nat) + (↑z : Int).toNat then (drP ((0 : Nat) + (↑z : Int).toNat < z ∧ p ((0 : Nat) + (↑z : Int).toNat)) (w.m.3 ((0 : Nat) + (↑z : Int).toNat)) + (1 : Int)).tdiv (2 : Int) else drP (i < z ∧ p i) (w.m.3 i)) = drP (i < z_1 ∧ p i) (w.m.3 i) ∧ (if i = (0 : Nat) + (↑z : Int).toNat then w.m.4 i else w.m.4 i) = w.m.4 i ∧ (if i = (0 : Nat) + (↑z : Int).toNat then w.m.5 i else w.m.5 i) = w.m.5 i ∧ True) ∧ True) ∧ (¬cellD (stV p).cells ((0 : Nat) + (↑z : Int).toNat * Try.prog.cellsOf (4 : Nat)) → ((-9223372036854775808 : Int) ≤ (↑z : Int) + (1 : Int) ∧ (↑z : Int) + (1 : Int) ≤ (9223372036854775807 : Int)) ∧ ∃ (z_1 : Nat), z_1 ≤ w.m.1 ∧ w.m.1 - z_1 < w.m.1 - z ∧ (0 : Nat) = (0 : Nat) ∧ (0 : Nat) = (0 : Nat) ∧ (0 : Nat) = (0 : Nat) ∧ (0 : Nat) = (0 : Nat) ∧ (0 : Nat) = (0 : Nat) ∧ (0 : Nat) = (0 : Nat) ∧ (↑w.m.1 : Int) = (↑w.m.1 : Int) ∧ (↑z : Int) + (1 : Int) = (↑z_1 : Int) ∧ w.1 = w.1 ∧ w.2 = w.2 ∧ w.j.1 = w.j.1 ∧ (∀ (i : Nat), i < w.j.1 → (SV.agg [i6 (w.j.nl i), i6 (w.j.nh i), i6 (w.j.le i), i6 (w.j.mo i), i6 (w.j.go i)]).den = (SV.agg [i6 (w.j.nl i), i6 (w.j.nh i), i6 (w.j.le i), i6 (w.j.mo i), i6 (w.j.go i)]).den ∧ True ∧
 True ∧ True ∧ True ∧ True ∧ True) ∧ (0 : Nat) = (0 : Nat) ∧ w.m.1 = w.m.1 ∧ (p (0 : Nat) ↔ p (0 : Nat)) ∧ (p (1 : Nat) ↔ p (1 : Nat)) ∧ (p (2 : Nat) ↔ p (2 : Nat)) ∧ (p (3 : Nat) ↔ p (3 : Nat)) ∧ (p (4 : Nat) ↔ p (4 : Nat)) ∧ (p (5 : Nat) ↔ p (5 : Nat)) ∧ (p (6 : Nat) ↔ p (6 : Nat)) ∧ (p (7 : Nat) ↔ p (7 : Nat)) ∧ (0 : Int) = (0 : Int) ∧ (0 : Int) = (0 : Int) ∧ Value.slice none (0 : Nat) (0 : Nat) = Value.slice none (0 : Nat) (0 : Nat) ∧ Value.slice none (0 : Nat) (0 : Nat) = Value.slice none (0 : Nat) (0 : Nat) ∧ w.m.1 = w.m.1 ∧ (∀ (i : Nat), i < w.m.1 → (4 : Nat) = (4 : Nat) ∧ w.m.2 i = w.m.2 i ∧ drP (i < z ∧ p i) (w.m.3 i) = drP (i < z_1 ∧ p i) (w.m.3 i) ∧ w.m.4 i = w.m.4 i ∧ w.m.5 i = w.m.5 i ∧ True) ∧ True)) ∧ (¬(↑z : Int) < (↑w.m.1 : Int) → (0 : Nat) < (1 : Nat) ∧ (0 : Nat) < (1 : Nat) ∧ w.1 = w.1 ∧ w.2 = w.2 ∧ w.j.1 = (wL w p).j.1 ∧ (∀ (i : Nat), i < (wL w p).j.1 → (SV.agg [i6 (w.j.nl i), i6 (w.j.nh i), i6 (w.j.le i), i6 (w.j.mo i), i6 (w.j.go i)]).den = (SV.agg [i6 ((wL w p).j.nl i), i6 ((wL w p).j.nh i), i6 ((wL w p).j.le i), i6 ((wL w p).j.mo i), i6 ((wL w p).j.go i)]).den ∧ True ∧ True ∧ True ∧ True ∧ True ∧ True) ∧ w.m.1 = w.m.1 ∧ (0 : Nat) + w.m.1 ≤ w.m.1 ∧ (∀ (i : Nat), i < w.m.1 → (4 : Nat) = (4 : Nat) ∧ (4 : Nat) = (4 : Nat) ∧ w.m.2 (i + (0 : Nat)) = w.m.2 i ∧ drP (i + (0 : Nat) < z ∧ p (i + (0 : Nat))) (w.m.3 (i + (0 : Nat))) = drP (p i) (w.m.3 i) ∧ w.m.4 (i + (0 : Nat)) = w.m.4 i ∧ w.m.5 (i + (0 : Nat)) = w.m.5 i ∧ True) ∧ True)) := by kernel_rfl
end Go.Proofs.Ytpannbkmpbioiaa

set_option maxRecDepth 100000
namespace Go.Proofs.Ytpannbkmpbioiaa
open Go Go.Lg
attribute [local irreducible] funS bodyH
open Classical in
theorem fiL_succ (p : Nat → Prop) (z : Nat) : fiL p (z + 1) = fiL p z ++ (if p z then [z] else []) := by
  unfold fiL
  rw [List.range_succ, List.filter_append]
  congr 1
  by_cases h : p z <;> simp [h]
theorem fil_n {p : Nat → Prop} {z : Nat} (h : ¬ p z) : fiL p (z + 1) = fiL p z := by rw [fiL_succ, if_neg h, List.append_nil]
theorem fil_y {p : Nat → Prop} {z : Nat} (h : p z) : fiL p (z + 1) = fiL p z ++ [z] := by rw [fiL_succ, if_pos h]
theorem fil_len {p : Nat → Prop} {z : Nat} (h : p z) : (fiL p (z + 1)).length = (fiL p z).length + 1 := by rw [fil_y h, List.length_append]; rfl
open Classical in
theorem fil_le (p : Nat → Prop) (k : Nat) : (fiL p k).length ≤ k := by
  have := List.length_filter_le (fun j => decide (p j)) (List.range k)
  rw [List.length_range] at this
  exact this
theorem fil_one {p : Nat → Prop} {z : Nat} (h : p z) (h0 : fiL p z = []) : (fiL p (z + 1)).length = 1 ∧ ∀ i, i < (fiL p (z + 1)).length → (z : Int) = ((fiL p (z + 1)).getD i 0 : Nat) := by
  rw [fil_y h, h0]
  refine ⟨rfl, fun i hi => ?_⟩
  have : i = 0 := by simp at hi; omega
  subst this
  rfl
theorem fil_get {p : Nat → Prop} {z : Nat} (h : p z) : ∀ i, i < (fiL p (z + 1)).length → (if i < (fiL p z).length then ((fiL p z).getD i 0 : Int) else (z : Int)) = ((fiL p (z + 1)).getD i 0 : Nat) := by
  intro i hi
  rw [fil_len h] at hi
  rw [fil_y h]
  by_cases e : i < (fiL p z).length
  · rw [if_pos e]
    simp [List.getD, List.getElem?_append_left e]
  · have : i = (fiL p z).length := by omega
    subst this
    rw [if_neg (Nat.lt_irrefl _)]
    simp [List.getD]
theorem fil_congr {p q : Nat → Prop} : ∀ {k : Nat}, (∀ j, j < k → (p j ↔ q j)) → fiL p k = fiL q k
  | 0, _ => rfl
  | k + 1, h => by
    have ih := fil_congr (p := p) (q := q) (k := k) fun j hj => h j (by omega)
    rw [fiL_succ, fiL_succ, ih]
    by_cases e : p k
    · rw [if_pos e, if_pos ((h k (by omega)).1 e)]
    · rw [if_neg e, if_neg fun hh => e ((h k (by omega)).2 hh)]
section
variable {p : Nat → Prop} {n z : Nat}
theorem fl_first (hz : z ≤ n ∧ fiL p z = []) (hl : (z : Int) < (n : Int)) (h : p z) : ∃ (z_1 : Nat), z_1 ≤ n ∧ n - z_1 < n - z ∧ (1 : Nat) = (fiL p z_1).length ∧ (z : Int) + (1 : Int) = (z_1 : Int) ∧ (fiL p z_1).length = (1 : Nat) ∧ (∀ (i : Nat), i < (fiL p z_1).length → (z : Int) = (((fiL p z_1).getD i (0 : Nat) : Nat) : Int)) := by
  obtain ⟨o1, o2⟩ := fil_one h hz.2
  exact ⟨z + 1, by omega, by omega, o1.symm, by omega, o1, o2⟩
theorem fl_next (hz : z ≤ n) (hl : (z : Int) < (n : Int)) (h : p z) : ∃ (z_1 : Nat), z_1 ≤ n ∧ n - z_1 < n - z ∧ (fiL p z).length + (1 : Nat) = (fiL p z_1).length ∧ (z : Int) + (1 : Int) = (z_1 : Int) ∧ (fiL p z_1).length = (fiL p z).length + (1 : Nat) ∧ (∀ (i : Nat), i < (fiL p z_1).length → (if i < (fiL p z).length then (((fiL p z).getD i (0 : Nat) : Nat) : Int) else (z : Int)) = (((fiL p z_1).getD i (0 : Nat) : Nat) : Int)) :=
  ⟨z + 1, by omega, by omega, (fil_len h).symm, by omega, fil_len h, fil_get h⟩
theorem fl_same0 (hz : z ≤ n ∧ fiL p z = []) (hl : (z : Int) < (n : Int)) (h : ¬ p z) : ∃ (z_1 : Nat), (z_1 ≤ n ∧ fiL p z_1 = []) ∧ n - z_1 < n - z ∧ (z : Int) + (1 : Int) = (z_1 : Int) :=
  ⟨z + 1, ⟨by omega, by rw [fil_n h, hz.2]⟩, by omega, by omega⟩
theorem fl_same1 (hz : z ≤ n) (hl : (z : Int) < (n : Int)) (h : ¬ p z) : ∃ (z_1 : Nat), z_1 ≤ n ∧ n - z_1 < n - z ∧ (fiL p z).length = (fiL p z_1).length ∧ (z : Int) + (1 : Int) = (z_1 : Int) ∧ (fiL p z_1).length = (fiL p z).length ∧ (∀ (i : Nat), i < (fiL p z_1).length → (((fiL p z).getD i (0 : Nat) : Nat) : Int) = (((fiL p z_1).getD i (0 : Nat) : Nat) : Int)) :=
  ⟨z + 1, by omega, by omega, by rw [fil_n h], by omega, by rw [fil_n h], by rw [fil_n h]; exact fun i hi => rfl⟩
end
theorem wrapN_small {n : Nat} (h : n < 2 ^ 63) : IntKind.wrap .i64 (n : Int) = n := by
  unfold IntKind.wrap
  have e : IntKind.bits .i64 = 64 := rfl
  simp only [e]
  have : ((n : Int) % 2 ^ 64) = n := by omega
  rw [this]
  have e2 : IntKind.signed .i64 = true := rfl
  simp only [e2, Bool.true_and, decide_eq_true_eq]
  split <;> omega
theorem ofInt_nat {s : Int} (h0 : 0 ≤ s) (h : s < 2 ^ 63) : (BitVec.ofInt 64 s).toNat = s.toNat := by
  rw [BitVec.toNat_ofInt]
  omega
theorem inP_bit {n s : Int} (h0 : 0 ≤ s) (h : s < 2 ^ 63) : inP n s ↔ s.toNat.testBit n.toNat = true := by
  unfold inP bitA shP
  have e : IntKind.bits .i64 = 64 := rfl
  rw [e]
  have hp : (2 : Int) ^ n.toNat = ((2 ^ n.toNat : Nat) : Int) := by simp
  have h1 : s.fdiv (2 ^ n.toNat) = ((s.toNat / 2 ^ n.toNat : Nat) : Int) := by
    rw [Int.fdiv_eq_ediv_of_nonneg _ (by rw [hp]; exact Int.natCast_nonneg _), hp, Int.natCast_ediv, Int.toNat_of_nonneg h0]
  have hq : s.toNat / 2 ^ n.toNat ≤ s.toNat := Nat.div_le_self _ _
  have h2 : (BitVec.ofInt 64 (s.fdiv (2 ^ n.toNat))).toNat = s.toNat / 2 ^ n.toNat := by
    rw [h1, ofInt_nat (Int.natCast_nonneg _) (by omega), Int.toNat_natCast]
  have h3 : (BitVec.ofInt 64 1).toNat = 1 := by decide
  rw [BitVec.toNat_and, h2, h3, Nat.and_one_is_mod, wrapN_small (n := s.toNat / 2 ^ n.toNat % 2) (by omega), Nat.testBit_eq_decide_div_mod_eq]
  simp only [decide_eq_true_eq]
  omega
theorem c4 : Try.prog.cellsOf 4 = 1 := by kernel_rfl
theorem decP_dP (p : Prop) : decP (dP p) = p := rfl
theorem cell8 (p : Nat → Prop) {z : Nat} (h : z < 8) : cellD (stV p).cells z ↔ p z := by
  have : z = 0 ∨ z = 1 ∨ z = 2 ∨ z = 3 ∨ z = 4 ∨ z = 5 ∨ z = 6 ∨ z = 7 := by omega
  rcases this with rfl | rfl | rfl | rfl | rfl | rfl | rfl | rfl <;> exact Iff.rfl
theorem hs_tb (b k : Nat) : hs b k ↔ b.testBit k = true := by
  unfold hs
  rw [Nat.testBit_eq_decide_div_mod_eq, decide_eq_true_eq]
theorem bit_hs {b z : Nat} (hb : b ≤ 256) : bitA IntKind.i64 ((b : Int).fdiv (shP (z : Int))) 1 = 1 ↔ hs b z := by
  have := inP_bit (n := (z : Int)) (s := (b : Int)) (by omega) (by omega)
  unfold inP at this
  rw [this, hs_tb, Int.toNat_natCast, Int.toNat_natCast]
theorem st_y {b z i : Nat} {B : Prop} (hB : B ↔ hs b z) : (z = i ∧ B ∨ ¬ z = i ∧ (i < z ∧ hs b i)) ↔ (i < z + 1 ∧ hs b i) := by
  by_cases e : z = i
  · subst e
    rw [hB]
    constructor
    · rintro (h | h)
      · exact ⟨by omega, h.2⟩
      · exact absurd rfl h.1
    · exact fun h => .inl ⟨rfl, h.2⟩
  · constructor
    · rintro (h | h)
      · exact absurd h.1 e
      · exact ⟨by omega, h.2.2⟩
    · exact fun h => .inr ⟨e, by omega, h.2⟩
theorem st_0 {b i : Nat} : False ↔ i < 0 ∧ hs b i := ⟨fun h => h.elim, fun h => by omega⟩
theorem st_e {b i : Nat} (h : i < 8) : (i < 8 ∧ hs b i) ↔ hs b i := ⟨fun h => h.2, fun x => ⟨h, x⟩⟩
theorem set_true {b : Nat} (hb : b ≤ 256) : setG b := by
  rw [setG_vc]
  simp only [and_true, true_and, Nat.zero_lt_one, and_self, implies_true, Int.toNat_natCast, Nat.zero_add, Nat.add_zero, Classical.not_not, Bool.false_eq_true, Nat.not_lt_zero, false_and, iff_self, c4, Nat.mul_one, decP_dP, bit_hs hb]
  refine ⟨⟨0, by omega, rfl, st_0, st_0, st_0, st_0, st_0, st_0, st_0, st_0⟩, fun z hz => ⟨fun hl => ⟨⟨by omega, by omega⟩, by omega, hl, by omega, by omega, z + 1, by omega, by omega, by omega, st_y Iff.rfl, st_y Iff.rfl, st_y Iff.rfl, st_y Iff.rfl, st_y Iff.rfl, st_y Iff.rfl, st_y Iff.rfl, st_y Iff.rfl⟩, fun hl => ?_⟩⟩
  have : z = 8 := by omega
  subst this
  exact ⟨st_e (by omega), st_e (by omega), st_e (by omega), st_e (by omega), st_e (by omega), st_e (by omega), st_e (by omega), st_e (by omega)⟩
theorem num_true {p : Nat → Prop} : numG p := by
  rw [numG_vc]
  simp only [and_true, true_and, Nat.zero_lt_one, and_self, implies_true, Int.toNat_natCast, Nat.zero_add, Nat.add_zero, Nat.one_mul, Nat.mul_one, Classical.not_not, iff_self, c4]
  have L := fil_le p
  have C : ∀ {z : Nat}, z < 8 → (cellD [dP (p 0), dP (p 1), dP (p 2), dP (p 3), dP (p 4), dP (p 5), dP (p 6), dP (p 7)] z ↔ p z) := fun {z} h => cell8 p h
  refine ⟨⟨0, ⟨by omega, rfl⟩, rfl⟩, fun z hz => ⟨fun hl => ⟨by omega, hl, by omega, fun hs => ⟨by omega, by omega, by omega, fl_first hz hl ((C (by omega)).1 hs)⟩, fun hs => ⟨by omega, fl_same0 hz hl fun h => hs ((C (by omega)).2 h)⟩⟩, fun hl => ?_⟩, fun z hz => ⟨fun hl => ?_, fun hl => ?_⟩⟩
  · have : z = 8 := by omega
    subst this
    rw [hz.2]; rfl
  · have := L z
    exact ⟨by omega, hl, by omega, fun hs => ⟨by omega, by omega, by omega, fl_next hz hl ((C (by omega)).1 hs)⟩, fun hs => ⟨by omega, fl_same1 hz hl fun h => hs ((C (by omega)).2 h)⟩⟩
  · have : z = 8 := by omega
    subst this
    exact ⟨rfl, by omega, fun i hi => rfl⟩
theorem cosN_le {m : Mn} {p : Nat → Prop} (hc : ∀ k, k < m.n → 1 ≤ m.co k ∧ m.co k ≤ 1000000) : ∀ z : Nat, z ≤ m.n → 0 ≤ cosN m p z ∧ cosN m p z ≤ 1000000 * (z : Int)
  | 0, _ => by simp [cosN]
  | z + 1, h => by
    have ih := cosN_le (p := p) hc z (by omega)
    have := hc z (by omega)
    simp only [cosN]
    split <;> omega
theorem cos_true {m : Mn} {p : Nat → Prop} (hn : m.n ≤ 8) (hc : ∀ k, k < m.n → 1 ≤ m.co k ∧ m.co k ≤ 1000000) : cosG m p := by
  rw [cosG_vc]
  simp only [and_true, true_and, Nat.zero_lt_one, and_self, implies_true, Int.toNat_natCast, Nat.zero_add, Nat.add_zero, Nat.one_mul, Nat.mul_one, Classical.not_not, iff_self, c4]
  refine ⟨⟨0, by omega, rfl, rfl⟩, fun z hz => ⟨fun hl => ⟨by omega, hl, by omega, by omega, by omega, fun h => ?_, fun h => ?_⟩, fun hl => ?_⟩⟩
  · have hz' : z < m.n := by omega
    have h1 := cosN_le (p := p) hc z hz
    have h2 := hc z hz'
    exact ⟨by omega, by omega, z + 1, by omega, by omega, by simp only [cosN, if_pos ((cell8 p (by omega)).1 h)], by omega⟩
  · exact ⟨by omega, z + 1, by omega, by omega, by simp only [cosN, if_neg fun x => h ((cell8 p (by omega)).2 x)]; omega, by omega⟩
  · have : z = m.n := by omega
    rw [this]
theorem an_y {p q : Nat → Prop} {z i : Nat} {B : Prop} (hp : p z) (hB : B ↔ q z) : (z = i ∧ B ∨ ¬ z = i ∧ (p i ∧ (i < z → q i))) ↔ (p i ∧ (i < z + 1 → q i)) := by
  by_cases e : z = i
  · subst e
    rw [hB]
    exact ⟨fun h => h.elim (fun h => ⟨hp, fun _ => h.2⟩) fun h => absurd rfl h.1, fun h => .inl ⟨rfl, h.2 (by omega)⟩⟩
  · exact ⟨fun h => h.elim (fun h => absurd h.1 e) fun h => ⟨h.2.1, fun x => h.2.2 (by omega)⟩, fun h => .inr ⟨e, h.1, fun x => h.2 (by omega)⟩⟩
theorem an_n {p q : Nat → Prop} {z i : Nat} (hp : ¬ p z) : (z = i ∧ False ∨ ¬ z = i ∧ (p i ∧ (i < z → q i))) ↔ (p i ∧ (i < z + 1 → q i)) := by
  by_cases e : z = i
  · subst e
    exact ⟨fun h => h.elim (fun h => h.2.elim) fun h => absurd rfl h.1, fun h => absurd h.1 hp⟩
  · exact ⟨fun h => h.elim (fun h => absurd h.1 e) fun h => ⟨h.2.1, fun x => h.2.2 (by omega)⟩, fun h => .inr ⟨e, h.1, fun x => h.2 (by omega)⟩⟩
theorem an_0 {p q : Nat → Prop} {i : Nat} : p i ↔ p i ∧ (i < 0 → q i) := ⟨fun h => ⟨h, fun x => by omega⟩, fun h => h.1⟩
theorem an_e {p q : Nat → Prop} {i : Nat} (h : i < 8) : (p i ∧ (i < 8 → q i)) ↔ (p i ∧ q i) := ⟨fun x => ⟨x.1, x.2 h⟩, fun x => ⟨x.1, fun _ => x.2⟩⟩
theorem and_tru {p q : Nat → Prop} : andG p q := by
  rw [andG_vc]
  simp only [and_true, true_and, Nat.zero_lt_one, and_self, implies_true, Int.toNat_natCast, Nat.zero_add, Nat.add_zero, Nat.one_mul, Nat.mul_one, Classical.not_not, iff_self, Bool.false_eq_true, c4, decP_dP]
  refine ⟨⟨0, by omega, rfl, an_0, an_0, an_0, an_0, an_0, an_0, an_0, an_0⟩, fun z hz => ⟨fun hl => ⟨by omega, hl, by omega, fun h => ?_, fun h => ?_⟩, fun hl => ?_⟩⟩
  · have hz' : z < 8 := by omega
    have hp : p z := ((cell8 (fun i => p i ∧ (i < z → q i)) hz').1 h).1
    have hB := cell8 q hz'
    exact ⟨by omega, hl, by omega, by omega, hl, by omega, by omega, z + 1, by omega, by omega, by omega, an_y hp hB, an_y hp hB, an_y hp hB, an_y hp hB, an_y hp hB, an_y hp hB, an_y hp hB, an_y hp hB⟩
  · have hz' : z < 8 := by omega
    have hp : ¬ p z := fun x => h ((cell8 (fun i => p i ∧ (i < z → q i)) hz').2 ⟨x, fun y => by omega⟩)
    exact ⟨by omega, hl, by omega, by omega, z + 1, by omega, by omega, by omega, an_n hp, an_n hp, an_n hp, an_n hp, an_n hp, an_n hp, an_n hp, an_n hp⟩
  · have : z = 8 := by omega
    subst this
    exact ⟨an_e (by omega), an_e (by omega), an_e (by omega), an_e (by omega), an_e (by omega), an_e (by omega), an_e (by omega), an_e (by omega)⟩
theorem drP_n {p : Prop} {d : Int} (h : ¬ p) : drP p d = d := by rw [drP, if_neg h]
theorem drP_y {p : Prop} {d : Int} (h : p) : drP p d = (d + 1).tdiv 2 := by rw [drP, if_pos h]
theorem drP_c {p q : Prop} {d : Int} (h : p ↔ q) : drP p d = drP q d := by rw [propext h]
theorem lai_true {w : Nw} {p : Nat → Prop} (hn : w.m.n ≤ 8) (hd : ∀ k, k < w.m.n → 0 ≤ w.m.dr k ∧ w.m.dr k ≤ 1000) : laiG w p := by
  rw [laiG_vc]
  have e0 : w.m.1 = w.m.n := rfl
  simp only [and_true, true_and, Nat.zero_lt_one, and_self, implies_true, Int.toNat_natCast, Nat.zero_add, Nat.add_zero, Nat.one_mul, Nat.mul_one, Classical.not_not, iff_self, Bool.false_eq_true, c4, ite_self]
  refine ⟨by omega, by omega, by omega, by omega, ⟨0, by omega, rfl, fun i _ => (drP_n fun x => by omega).symm⟩, fun z hz => ⟨fun hl => ⟨by omega, by omega, by omega, fun h => ?_, fun h => ?_⟩, fun hl => ?_⟩⟩
  · have hz' : z < w.m.n := by omega
    have hp := (cell8 p (by omega)).1 h
    have h2 := hd z hz'
    have e : drP (z < z ∧ p z) (w.m.dr z) = w.m.dr z := drP_n fun x => by omega
    have e2 : ∀ i, i < w.m.n → (if i = z then (w.m.dr z + 1).tdiv 2 else drP (i < z ∧ p i) (w.m.dr i)) = drP (i < z + 1 ∧ p i) (w.m.dr i) := fun i hi => by
      by_cases ei : i = z
      · subst ei
        rw [if_pos rfl, drP_y ⟨by omega, hp⟩]
      · rw [if_neg ei]
        exact drP_c ⟨fun x => ⟨by omega, x.2⟩, fun x => ⟨by omega, x.2⟩⟩
    have e3 : (w.m.dr z + 1).tdiv 2 = (w.m.dr z + 1) / 2 := Int.tdiv_eq_ediv_of_nonneg (by omega)
    rw [e]
    exact ⟨by omega, hl, hz', by omega, by omega, by rw [e3]; omega, by omega, hl, by omega, hz', by omega, z + 1, by omega, by omega, by omega, e2⟩
  · have hp : ¬ p z := fun x => h ((cell8 p (by omega)).2 x)
    refine ⟨by omega, z + 1, by omega, by omega, by omega, fun i hi => drP_c ⟨fun x => ⟨by omega, x.2⟩, fun x => ⟨?_, x.2⟩⟩⟩
    by_cases ei : i = z
    · subst ei; exact absurd x.2 hp
    · omega
  · have : z = w.m.n := by omega
    subst this
    exact ⟨rfl, fun i _ => rfl, by omega, fun i hi => drP_c ⟨fun x => x.2, fun x => ⟨hi, x⟩⟩⟩
end Go.Proofs.Ytpannbkmpbioiaa

set_option maxRecDepth 100000
namespace Go.Proofs.Ytpannbkmpbioiaa
open Go Go.Lg
attribute [local irreducible] bodyH
def leI (f : Nat → Int) : Nat → Nat
  | 0 => 0
  | k + 1 => if k = 0 ∨ f k < f (leI f k) then k else leI f k
noncomputable def stL (p : Nat → Prop) : List SV := [dP (p 0), dP (p 1), dP (p 2), dP (p 3), dP (p 4), dP (p 5), dP (p 6), dP (p 7)]
def cut (p : Nat → Prop) (k : Nat) : Prop := k < 8 ∧ p k
def m5 (m : Mn) : Prop := ∀ k, k < m.n → 1 ≤ m.co k ∧ m.co k ≤ 1000000
def d5 (m : Mn) : Prop := ∀ k, k < m.n → 0 ≤ m.dr k ∧ m.dr k ≤ 1000
noncomputable def setC : Ctr := ⟨89, fun args k => match args with
  | [.int .i64 b] => (0 ≤ b ∧ b ≤ 256) ∧ k (stV (hs b.toNat))
  | _ => False⟩
noncomputable def numC : Ctr := ⟨43, fun args k => match args with
  | [.agg cs] => (cs.length = 8 ∧ allB cs = true) ∧ k (lstI (fiL (cut (cellD cs)) 8))
  | _ => False⟩
noncomputable def cosC : Ctr := ⟨44, fun args k => match args with
  | [.agg cs, x] => (cs.length = 8 ∧ allB cs = true) ∧ x = (mOf x).sv ∧ (mOf x).n ≤ 8 ∧ m5 (mOf x) ∧ k (i6 (cosN (mOf x) (cut (cellD cs)) (mOf x).n))
  | _ => False⟩
noncomputable def andC : Ctr := ⟨66, fun args k => match args with
  | [.agg cs, .agg ds] => (cs.length = 8 ∧ allB cs = true) ∧ (ds.length = 8 ∧ allB ds = true) ∧ k (stV fun i => cut (cellD cs) i ∧ cut (cellD ds) i)
  | _ => False⟩
noncomputable def laiC : Ctr := netC 90 fun w r k => match r with
  | [.agg cs] => (cs.length = 8 ∧ allB cs = true) ∧ w.m.n ≤ 8 ∧ d5 w.m ∧ k (wL w (cut (cellD cs))).sv
  | _ => False
def eP (w : Nw) (b : Nat) : Prop := ¬ ftI (wL w (cut (hs b)))
noncomputable def enL (w : Nw) : List Nat := fiL (eP w) (pw w.m.n)
noncomputable def enuG (w : Nw) : Prop := funH Try.prog (ctrs []) noX (ictrs []) noL noL 65 [w.sv] (.clo (.func 88) [] [.ipt (cells' w.sv)])
noncomputable def enuC : Ctr := netC 65 fun w r k => match r with
  | [] => k (.clo (.func 88) [] [.ipt (cells' w.sv)])
  | _ => False
noncomputable def csEn : CSpec := ctrsF [laiC] (ctrs [setC, fltC])
noncomputable def enIG (w : Nw) : Prop := itH Try.prog csEn noX (ictrs [])
  (oneL 0 (natH (fun z => z ≤ pw w.m.n) (fun z => pw w.m.n - z) 1 (fun z => mkF 34 [(0, .yld 0), (1, .ipt (cells' w.sv)), (11, i6 (pw w.m.n)), (12, i6 z)]) (fun _ => ⟨1, .nil⟩) fun z => some (fiL (eP w) z).length)) noL 88 [] [.ipt (cells' w.sv)] (enL w).length fun i => [stV (hs ((enL w).getD i 0))]
noncomputable def enuI : ICtr := ⟨88, fun fs us k => match fs, us with
  | [], [.ipt cs] => SV.agg cs = (wOf (.agg cs)).sv ∧ okNet (wOf (.agg cs)) ∧ k (enL (wOf (.agg cs))).length 1 fun i => [stV (hs ((enL (wOf (.agg cs))).getD i 0))]
  | _, _ => False⟩
noncomputable def cosL (w : Nw) (i : Nat) : Int := cosN w.m (cut (hs ((enL w).getD i 0))) w.m.n
noncomputable def bsN (w : Nw) (j : Nat) : Nat := if j = 0 then 0 else (enL w).getD (leI (cosL w) j) 0
noncomputable def csCh : CSpec := ctrsF [enuC] (ctrs [cosC])
noncomputable def cheG (w : Nw) : Prop := funH Try.prog csCh noX (ictrs [enuI]) noL
  (oneL 0 (itS 3 (fun j => True) (mkF 24 [(1, .ptr 0 0 0), (2, .ptr 1 0 0), (3, .ptr 2 0 0)]) (fun j => mkX [vr 4 w.sv, vr 8 (stV (hs (bsN w j))), vr 1 (dP (1 ≤ j))]) (fun _ => none))) 42 [w.sv] (.tup [stV (hs (bsN w (enL w).length)), dP (1 ≤ (enL w).length)])
def cmP (w : Nw) (j i : Nat) : Prop := 1 ≤ j ∧ ∀ q, q < j → hs ((enL w).getD q 0) i
noncomputable def csCo : CSpec := ctrsF [enuC] (ctrs [andC])
noncomputable def comG (w : Nw) : Prop := funH Try.prog csCo noX (ictrs [enuI]) noL
  (oneL 0 (itS 3 (fun j => True) (mkF 19 [(1, .ptr 0 0 0), (2, .ptr 1 0 0), (3, .ptr 2 0 0)]) (fun j => mkX [vr 4 w.sv, vr 8 (stV (cmP w j)), vr 1 (dP (1 ≤ j))]) (fun _ => none))) 47 [w.sv] (.tup [stV (cmP w (enL w).length), dP (1 ≤ (enL w).length)])
noncomputable def cheC : Ctr := netC 42 fun w r k => match r with
  | [] => okNet w ∧ k (.tup [stV (hs (bsN w (enL w).length)), dP (1 ≤ (enL w).length)])
  | _ => False
noncomputable def comC : Ctr := netC 47 fun w r k => match r with
  | [] => okNet w ∧ k (.tup [stV (cmP w (enL w).length), dP (1 ≤ (enL w).length)])
  | _ => False
open Classical in
noncomputable def laE (w : Nw) : Int := if okNet w then (if (enL w).length = 0 then 4 else 0) else 1
open Classical in
noncomputable def laL (w : Nw) : List Nat := if laE w = 0 then fiL (cut (hs (bsN w (enL w).length))) 8 else []
noncomputable def laC (w : Nw) : Int := if laE w = 0 then cosN w.m (cut (hs (bsN w (enL w).length))) w.m.n else 0
noncomputable def muL (w : Nw) : List Nat := if laE w = 0 then fiL (cut (cmP w (enL w).length)) 8 else []
noncomputable def csLa : CSpec := ctrsF [numC] (ctrs [vnetC 40, cheC, cosC])
noncomputable def layG (w : Nw) : Prop := funH Try.prog csLa noX (ictrs []) noL noL 18 [w.sv] (.tup [lstI (laL w), i6 (laC w), i6 (laE w)])
noncomputable def csMu : CSpec := ctrsF [numC] (ctrs [vnetC 40, comC])
noncomputable def musG (w : Nw) : Prop := funH Try.prog csMu noX (ictrs []) noL noL 20 [w.sv] (.tup [lstI (muL w), i6 (laE w)])
end Go.Proofs.Ytpannbkmpbioiaa

set_option maxRecDepth 100000
namespace Go.Proofs.Ytpannbkmpbioiaa
open Go Go.Lg
theorem enuG_vc (w : Nw) : enuG w = ((0 : Nat) < (1 : Nat) ∧ w.1 = w.1 ∧ w.2 = w.2 ∧ w.j.1 = w.j.1 ∧ (∀ (i : Nat), i < w.j.1 → (SV.agg [i6 (w.j.nl i), i6 (w.j.nh i), i6 (w.j.le i), i6 (w.j.mo i), i6 (w.j.go i)]).den = (SV.agg [i6 (w.j.nl i), i6 (w.j.nh i), i6 (w.j.le i), i6 (w.j.mo i), i6 (w.j.go i)]).den ∧ True ∧ True ∧ True ∧ True ∧ True ∧ True) ∧ w.m.1 = w.m.1 ∧ (∀ (i : Nat), i < w.m.1 → (SV.agg [i6 (w.m.fr i), i6 (w.m.dr i), i6 (w.m.va i), i6 (w.m.co i)]).den = (SV.agg [i6 (w.m.fr i), i6 (w.m.dr i), i6 (w.m.va i), i6 (w.m.co i)]).den ∧ True ∧ True ∧ True ∧ True ∧ True) ∧ True) := by kernel_rfl
theorem enIG_vc (w : Nw) : enIG w = (((0 : Int) ≤ (↑w.m.1 : Int) ∧ (↑w.m.1 : Int) ≤ (↑(64 : Nat) : Int)) ∧ ((-9223372036854775808 : Int) ≤ (1 : Int) * shP (↑w.m.1 : Int) ∧ (1 : Int) * shP (↑w.m.1 : Int) ≤ (9223372036854775807 : Int)) ∧ (∃ (z : Nat), z ≤ pw w.m.1 ∧ (0 : Nat) = (fiL (eP w) z).length ∧ SV.denL (cells' w.sv) = SV.denL (cells' w.sv) ∧ (True ∧ True ∧ (∀ (i : Nat), i < w.j.1 → True ∧ True ∧ True ∧ True ∧ True ∧ True) ∧ (∀ (i : Nat), i < w.m.1 → True ∧ True ∧ True ∧ True ∧ True) ∧ True) ∧ (1 : Int) * shP (↑w.m.1 : Int) = (↑(pw w.m.1) : Int) ∧ (0 : Int) = (↑z : Int) ∧ True) ∧ ∀ (z : Nat), z ≤ pw w.m.1 → ((↑z : Int) < (↑(pw w.m.1) : Int) → ((0 : Int) ≤ (↑z : Int) ∧ (↑z : Int) ≤ (256 : Int)) ∧ (0 : Nat) < (1 : Nat) ∧ (∀ (i : Nat), i < w.j.1 → True ∧ True ∧ True ∧ True ∧ True ∧ True) ∧ (∀ (i : Nat), i < w.m.1 → True ∧ True ∧ True ∧ True ∧ True) ∧ w.sv = w.sv ∧ ((8 : Nat) = (8 : Nat) ∧ allB (stL (hs (↑z : Int).toNat)) = true) ∧ w.m.1 ≤ (8 : Nat) ∧ d5 w.m ∧ (∀ (i : Nat), i < w.j.1 → True ∧ True ∧ True ∧ True ∧ True ∧ True) ∧ (∀ (i : Nat), i < w.m.1 → True ∧ True ∧ True ∧ True ∧ True) ∧ (wL w (cut (cellD (stL (hs (↑z : Int).toNat))))).sv = (wL w (cut (cellD (stL (hs (↑z : Int).toNat))))).sv ∧ okNet (wL w (cut (cellD (stL (hs (↑z : Int).toNat))))) ∧ (¬ftI (wL w (cut (cellD (stL (hs (↑z : Int).toNat))))) → (0 : Nat) < (1 : Nat) ∧ (fiL (eP w) z).length < (enL w).length ∧ (hs (↑z : Int).toNat (0 : Nat) ↔ hs ((enL w).getD (fiL (eP w) z).length (0 : Nat)) (0 : Nat)) ∧ (hs (↑z : Int).toNat (1 : Nat) ↔ hs ((enL w).getD (fiL (eP w) z).length (0 : Nat)) (1 : Nat)) ∧ (hs (↑z : Int).toNat (2 : Nat) ↔ hs ((enL w).getD (fiL (eP w) z).length (0 : Nat)) (2 : Nat)) ∧ (hs (↑z : Int).toNat (3 : Nat) ↔ hs ((enL w).getD (fiL (eP w) z).length (0 : Nat)) (3 : Nat)) ∧
 (hs (↑z : Int).toNat (4 : Nat) ↔ hs ((enL w).getD (fiL (eP w) z).length (0 : Nat)) (4 : Nat)) ∧ (hs (↑z : Int).toNat (5 : Nat) ↔ hs ((enL w).getD (fiL (eP w) z).length (0 : Nat)) (5 : Nat)) ∧ (hs (↑z : Int).toNat (6 : Nat) ↔ hs ((enL w).getD (fiL (eP w) z).length (0 : Nat)) (6 : Nat)) ∧ (hs (↑z : Int).toNat (7 : Nat) ↔ hs ((enL w).getD (fiL (eP w) z).length (0 : Nat)) (7 : Nat)) ∧ (((-9223372036854775808 : Int) ≤ (↑z : Int) + (1 : Int) ∧ (↑z : Int) + (1 : Int) ≤ (9223372036854775807 : Int)) ∧ ∃ (z_1 : Nat), z_1 ≤ pw w.m.1 ∧ pw w.m.1 - z_1 < pw w.m.1 - z ∧ (fiL (eP w) z).length.succ = (fiL (eP w) z_1).length ∧ SV.denL (cells' w.sv) = SV.denL (cells' w.sv) ∧ (True ∧ True ∧ (∀ (i : Nat), i < w.j.1 → True ∧ True ∧ True ∧ True ∧ True ∧ True) ∧ (∀ (i : Nat), i < w.m.1 → True ∧ True ∧ True ∧ True ∧ True) ∧ True) ∧ (↑(pw w.m.1) : Int) = (↑(pw w.m.1) : Int) ∧ (↑z : Int) + (1 : Int) = (↑z_1 : Int) ∧ True) ∧ True) ∧ (¬¬ftI (wL w (cut (cellD (stL (hs (↑z : Int).toNat))))) → ((-9223372036854775808 : Int) ≤ (↑z : Int) + (1 : Int) ∧ (↑z : Int) + (1 : Int) ≤ (9223372036854775807 : Int)) ∧ ∃ (z_1 : Nat), z_1 ≤ pw w.m.1 ∧ pw w.m.1 - z_1 < pw w.m.1 - z ∧ (fiL (eP w) z).length = (fiL (eP w) z_1).length ∧ SV.denL (cells' w.sv) = SV.denL (cells' w.sv) ∧ (True ∧ True ∧ (∀ (i : Nat), i < w.j.1 → True ∧ True ∧ True ∧ True ∧ True ∧ True) ∧ (∀ (i : Nat), i < w.m.1 → True ∧ True ∧ True ∧ True ∧ True) ∧ True) ∧ (↑(pw w.m.1) : Int) = (↑(pw w.m.1) : Int) ∧ (↑z : Int) + (1 : Int) = (↑z_1 : Int) ∧ True)) ∧ (¬(↑z : Int) < (↑(pw w.m.1) : Int) → (fiL (eP w) z).length = (enL w).length)) := by kernel_rfl
end Go.Proofs.Ytpannbkmpbioiaa
