import Derived.ProofKit
import Derived.Test.YtfjfnpknlkonnaaProg
import Derived.Test.YtfjfnpknlkonnaaPfPgPh
set_option linter.unusedVariables false
set_option linter.unusedSimpArgs false
namespace Go.Proofs.Ytfjfnpknlkonnaa
open Go Go.Lg
attribute [local irreducible] bodyH
def rI (x : Int) : Prop := -9223372036854775808 ≤ x ∧ x ≤ 9223372036854775807
def rE {α : Type} (a : α) : Prop := a = a
def tt3 : Prop := True ∧ True ∧ True
def tt4 : Prop := True ∧ True ∧ True ∧ True
def tt5 : Prop := True ∧ True ∧ True ∧ True ∧ True
def tt13 : Prop := True ∧ True ∧ True ∧ True ∧ True ∧ True ∧ True ∧ True ∧ True ∧ True ∧ True ∧ True ∧ True
def tt14 : Prop := True ∧ tt13
structure Cl where
  g : Bool
  su : Int
  ca : Int
def Cl.cells (c : Cl) : List SV := [.dec (c.g = true) inferInstance, i6 c.su, i6 c.ca]
def inP (n s : Int) : Prop := bitA .i64 (s.fdiv (shP n)) 1 = 1
def agP (c : Cl) (n : Int) : Prop := (c.g = true ∧ ¬ inP n c.ca) ∨ (¬ c.g = true ∧ inP n c.su)
open Classical in
noncomputable def agN (c : Cl) (n : Nat) : Int := if agP c n then 1 else 0
noncomputable def wt (t : Nat → Int) (c : Cl) (k i : Nat) : Int := if i < k then t i + agN c i else t i
def T12 (f : Nat → Int) : SV := .agg [i6 (f 0), i6 (f 1), i6 (f 2), i6 (f 3), i6 (f 4), i6 (f 5), i6 (f 6), i6 (f 7), i6 (f 8), i6 (f 9), i6 (f 10), i6 (f 11)]
def isInC : Ctr := ⟨55, fun args k => match args with
  | [.int .i64 n, .int .i64 s] => (0 ≤ n ∧ n ≤ 64) ∧ k (.dec (inP n s) (Classical.propDecidable _))
  | _ => False⟩
noncomputable def isInG (n s : Int) : Prop := funH Try.prog (ctrs []) noX (ictrs []) noL noL 55 [i6 n, i6 s] (.dec (inP n s) (Classical.propDecidable _))
noncomputable def ag1G (c : Cl) (n : Int) : Prop := funH Try.prog (ctrs [isInC]) noX (ictrs []) noL noL 57 [i6 n, .ipt c.cells] (.dec (¬ inP n c.ca) (Classical.propDecidable _))
noncomputable def ag2G (c : Cl) (n : Int) : Prop := funH Try.prog (ctrs [isInC]) noX (ictrs []) noL noL 58 [i6 n, .ipt c.cells] (.dec (inP n c.su) (Classical.propDecidable _))
def fndV (c : Cl) (g : FuncId) : SV := .agg [.clo (.func g) [] [.ipt c.cells]]
def cOf (l : List SV) : Cl := match l with
  | [.dec p i, .int _ s, .int _ a] => ⟨@decide p i, s, a⟩
  | _ => ⟨false, 0, 0⟩
def agC (g : FuncId) (b : Bool) : Ctr := ⟨g, fun args k => match args with
  | [.int .i64 n, .ipt [x, .int .i64 s, .int .i64 a]] => (0 ≤ n ∧ n ≤ 64) ∧ (match b with
    | true => k (.dec (¬ inP n a) (Classical.propDecidable _))
    | false => k (.dec (inP n s) (Classical.propDecidable _)))
  | _ => False⟩
noncomputable def withL (t : Nat → Int) (c : Cl) (g : FuncId) : Nat → Option HSpec :=
  oneL 0 (natH (fun k => k ≤ 12) (fun k => 12 - k) 3 (fun k => mkF 20 [(2, .ptr 0 0 0), (3, .ptr 1 0 0), (4, .ptr 2 0 0), (6, i6 k)]) (fun k => mkX [vr 12 (T12 (wt t c k)), vr 1 (fndV c g), vr 12 (T12 fun _ => 0)]) fun _ => none)
noncomputable def withG (t : Nat → Int) (c : Cl) : Prop := funH Try.prog (ctrs [agC 57 true]) noX (ictrs []) (withL t c 57) noL 46 [T12 t, fndV c 57] (T12 (wt t c 12))
noncomputable def withG2 (t : Nat → Int) (c : Cl) : Prop := funH Try.prog (ctrs [agC 58 false]) noX (ictrs []) (withL t c 58) noL 46 [T12 t, fndV c 58] (T12 (wt t c 12))
end Go.Proofs.Ytfjfnpknlkonnaa

set_option maxRecDepth 100000
namespace Go.Proofs.Ytfjfnpknlkonnaa
open Go Go.Lg
theorem isInG_vc (n : Int) (s : Int) : isInG n s = (((0 : Int) ≤ n ∧ n ≤ (↑(64 : Nat) : Int)) ∧ (bitA IntKind.i64 (s.fdiv (shP n)) (1 : Int) = (1 : Int) ↔ inP n s) ∧ True) := by kernel_rfl
theorem withG_vc (t : Nat → Int) (c : Cl) : withG t c = ((∃ (z : Nat), z ≤ (12 : Nat) ∧ rE (0 : Nat) ∧ rE (0 : Nat) ∧ rE (0 : Nat) ∧ rE (0 : Nat) ∧ rE (0 : Nat) ∧ rE (0 : Nat) ∧ (0 : Int) = (↑z : Int) ∧ t (0 : Nat) = wt t c z (0 : Nat) ∧ t (1 : Nat) = wt t c z (1 : Nat) ∧ t (2 : Nat) = wt t c z (2 : Nat) ∧ t (3 : Nat) = wt t c z (3 : Nat) ∧ t (4 : Nat) = wt t c z (4 : Nat) ∧ t (5 : Nat) = wt t c z (5 : Nat) ∧ t (6 : Nat) = wt t c z (6 : Nat) ∧ t (7 : Nat) = wt t c z (7 : Nat) ∧ t (8 : Nat) = wt t c z (8 : Nat) ∧ t (9 : Nat) = wt t c z (9 : Nat) ∧ t (10 : Nat) = wt t c z (10 : Nat) ∧ t (11 : Nat) = wt t c z (11 : Nat) ∧ rE (Fn.func (57 : FuncId)) ∧ rE (SV.denL c.cells) ∧ (tt4) ∧ rE (0 : Int) ∧ rE (0 : Int) ∧ rE (0 : Int) ∧ rE (0 : Int) ∧ rE (0 : Int) ∧ rE (0 : Int) ∧ rE (0 : Int) ∧ rE (0 : Int) ∧ rE (0 : Int) ∧ rE (0 : Int) ∧ rE (0 : Int) ∧ rE (0 : Int) ∧ True) ∧ ∀ (z : Nat), z ≤ (12 : Nat) → ((↑z : Int) < (12 : Int) → (0 : Nat) < (1 : Nat) ∧
 (tt4) ∧ ((0 : Int) ≤ (↑z : Int) ∧ (↑z : Int) ≤ (64 : Int)) ∧ (¬inP (↑z : Int) c.ca → (0 : Int) ≤ (↑z : Int) ∧ (↑z : Int) < (↑(12 : Nat) : Int) ∧ (0 : Nat) < (1 : Nat) ∧ (0 : Nat) + (↑z : Int).toNat * (1 : Nat) < (12 : Nat) ∧ rI (cellZ (T12 (wt t c z)).cells ((0 : Nat) + (↑z : Int).toNat * (1 : Nat)) + (1 : Int)) ∧ (0 : Int) ≤ (↑z : Int) ∧ (↑z : Int) < (↑(12 : Nat) : Int) ∧ (0 : Nat) + (↑z : Int).toNat * (1 : Nat) < (12 : Nat) ∧ rI ((↑z : Int) + (1 : Int)) ∧ ∃ (z_1 : Nat), z_1 ≤ (12 : Nat) ∧ (12 : Nat) - z_1 < (12 : Nat) - z ∧ rE (0 : Nat) ∧ rE (0 : Nat) ∧ rE (0 : Nat) ∧ rE (0 : Nat) ∧ rE (0 : Nat) ∧ rE (0 : Nat) ∧ (↑z : Int) + (1 : Int) = (↑z_1 : Int) ∧ (if (0 : Nat) + (↑z : Int).toNat * (1 : Nat) = (0 : Nat) then cellZ (T12 (wt t c z)).cells ((0 : Nat) + (↑z : Int).toNat * (1 : Nat)) + (1 : Int) else wt t c z (0 : Nat)) = wt t c z_1 (0 : Nat) ∧ (if (0 : Nat) + (↑z : Int).toNat * (1 :
 Nat) = (0 : Nat) + (1 : Nat) then cellZ (T12 (wt t c z)).cells ((0 : Nat) + (↑z : Int).toNat * (1 : Nat)) + (1 : Int) else wt t c z (1 : Nat)) = wt t c z_1 (1 : Nat) ∧ (if (0 : Nat) + (↑z : Int).toNat * (1 : Nat) = (0 : Nat) + (1 : Nat) + (1 : Nat) then cellZ (T12 (wt t c z)).cells ((0 : Nat) + (↑z : Int).toNat * (1 : Nat)) + (1 : Int) else wt t c z (2 : Nat)) = wt t c z_1 (2 : Nat) ∧ (if (0 : Nat) + (↑z : Int).toNat * (1 : Nat) = (0 : Nat) + (1 : Nat) + (1 : Nat) + (1 : Nat) then cellZ (T12 (wt t c z)).cells ((0 : Nat) + (↑z : Int).toNat * (1 : Nat)) + (1 : Int) else wt t c z (3 : Nat)) = wt t c z_1 (3 : Nat) ∧ (if (0 : Nat) + (↑z : Int).toNat * (1 : Nat) = (0 : Nat) + (1 : Nat) + (1 : Nat) + (1 : Nat) + (1 : Nat) then cellZ (T12 (wt t c z)).cells ((0 : Nat) + (↑z : Int).toNat * (1 : Nat)) + (1 : Int) else wt t c z (4 : Nat)) = wt t c z_1 (4 : Nat) ∧ (if (0 : Nat) + (↑z : Int).toNat *
 (1 : Nat) = (0 : Nat) + (1 : Nat) + (1 : Nat) + (1 : Nat) + (1 : Nat) + (1 : Nat) then cellZ (T12 (wt t c z)).cells ((0 : Nat) + (↑z : Int).toNat * (1 : Nat)) + (1 : Int) else wt t c z (5 : Nat)) = wt t c z_1 (5 : Nat) ∧ (if (0 : Nat) + (↑z : Int).toNat * (1 : Nat) = (0 : Nat) + (1 : Nat) + (1 : Nat) + (1 : Nat) + (1 : Nat) + (1 : Nat) + (1 : Nat) then cellZ (T12 (wt t c z)).cells ((0 : Nat) + (↑z : Int).toNat * (1 : Nat)) + (1 : Int) else wt t c z (6 : Nat)) = wt t c z_1 (6 : Nat) ∧ (if (0 : Nat) + (↑z : Int).toNat * (1 : Nat) = (0 : Nat) + (1 : Nat) + (1 : Nat) + (1 : Nat) + (1 : Nat) + (1 : Nat) + (1 : Nat) + (1 : Nat) then cellZ (T12 (wt t c z)).cells ((0 : Nat) + (↑z : Int).toNat * (1 : Nat)) + (1 : Int) else wt t c z (7 : Nat)) = wt t c z_1 (7 : Nat) ∧ (if (0 : Nat) + (↑z : Int).toNat * (1 : Nat) = (0 : Nat) + (1 : Nat) + (1 : Nat) + (1 : Nat) + (1 : Nat) + (1 : Nat) + (1 : Nat) +
 (1 : Nat) + (1 : Nat) then cellZ (T12 (wt t c z)).cells ((0 : Nat) + (↑z : Int).toNat * (1 : Nat)) + (1 : Int) else wt t c z (8 : Nat)) = wt t c z_1 (8 : Nat) ∧ (if (0 : Nat) + (↑z : Int).toNat * (1 : Nat) = (0 : Nat) + (1 : Nat) + (1 : Nat) + (1 : Nat) + (1 : Nat) + (1 : Nat) + (1 : Nat) + (1 : Nat) + (1 : Nat) + (1 : Nat) then cellZ (T12 (wt t c z)).cells ((0 : Nat) + (↑z : Int).toNat * (1 : Nat)) + (1 : Int) else wt t c z (9 : Nat)) = wt t c z_1 (9 : Nat) ∧ (if (0 : Nat) + (↑z : Int).toNat * (1 : Nat) = (0 : Nat) + (1 : Nat) + (1 : Nat) + (1 : Nat) + (1 : Nat) + (1 : Nat) + (1 : Nat) + (1 : Nat) + (1 : Nat) + (1 : Nat) + (1 : Nat) then cellZ (T12 (wt t c z)).cells ((0 : Nat) + (↑z : Int).toNat * (1 : Nat)) + (1 : Int) else wt t c z (10 : Nat)) = wt t c z_1 (10 : Nat) ∧ (if (0 : Nat) + (↑z : Int).toNat * (1 : Nat) = (0 : Nat) + (1 : Nat) + (1 : Nat) + (1 : Nat) + (1 : Nat) + (1 : Nat)
 + (1 : Nat) + (1 : Nat) + (1 : Nat) + (1 : Nat) + (1 : Nat) + (1 : Nat) then cellZ (T12 (wt t c z)).cells ((0 : Nat) + (↑z : Int).toNat * (1 : Nat)) + (1 : Int) else wt t c z (11 : Nat)) = wt t c z_1 (11 : Nat) ∧ rE (Fn.func (57 : FuncId)) ∧ rE (SV.denL c.cells) ∧ (tt4) ∧ rE (0 : Int) ∧ rE (0 : Int) ∧ rE (0 : Int) ∧ rE (0 : Int) ∧ rE (0 : Int) ∧ rE (0 : Int) ∧ rE (0 : Int) ∧ rE (0 : Int) ∧ rE (0 : Int) ∧ rE (0 : Int) ∧ rE (0 : Int) ∧ rE (0 : Int) ∧ True) ∧ (¬¬inP (↑z : Int) c.ca → rI ((↑z : Int) + (1 : Int)) ∧ ∃ (z_1 : Nat), z_1 ≤ (12 : Nat) ∧ (12 : Nat) - z_1 < (12 : Nat) - z ∧ rE (0 : Nat) ∧ rE (0 : Nat) ∧ rE (0 : Nat) ∧ rE (0 : Nat) ∧ rE (0 : Nat) ∧ rE (0 : Nat) ∧ (↑z : Int) + (1 : Int) = (↑z_1 : Int) ∧ wt t c z (0 : Nat) = wt t c z_1 (0 : Nat) ∧ wt t c z (1 : Nat) = wt t c z_1 (1 : Nat) ∧ wt t c z (2 : Nat) = wt t c z_1 (2 : Nat) ∧ wt t c z (3 : Nat) = wt t c z_1 (3 : Nat) ∧ wt t c z
 (4 : Nat) = wt t c z_1 (4 : Nat) ∧ wt t c z (5 : Nat) = wt t c z_1 (5 : Nat) ∧ wt t c z (6 : Nat) = wt t c z_1 (6 : Nat) ∧ wt t c z (7 : Nat) = wt t c z_1 (7 : Nat) ∧ wt t c z (8 : Nat) = wt t c z_1 (8 : Nat) ∧ wt t c z (9 : Nat) = wt t c z_1 (9 : Nat) ∧ wt t c z (10 : Nat) = wt t c z_1 (10 : Nat) ∧ wt t c z (11 : Nat) = wt t c z_1 (11 : Nat) ∧ rE (Fn.func (57 : FuncId)) ∧ rE (SV.denL c.cells) ∧ (tt4) ∧ rE (0 : Int) ∧ rE (0 : Int) ∧ rE (0 : Int) ∧ rE (0 : Int) ∧ rE (0 : Int) ∧ rE (0 : Int) ∧ rE (0 : Int) ∧ rE (0 : Int) ∧ rE (0 : Int) ∧ rE (0 : Int) ∧ rE (0 : Int) ∧ rE (0 : Int) ∧ True)) ∧ (¬(↑z : Int) < (12 : Int) → (0 : Nat) < (1 : Nat) ∧ (0 : Nat) < (1 : Nat) ∧ wt t c z (0 : Nat) = wt t c (12 : Nat) (0 : Nat) ∧ wt t c z (1 : Nat) = wt t c (12 : Nat) (1 : Nat) ∧ wt t c z (2 : Nat) = wt t c (12 : Nat) (2 : Nat) ∧ wt t c z (3 : Nat) = wt t c (12 : Nat) (3 : Nat) ∧ wt t c z (4 : Nat) = wt
 t c (12 : Nat) (4 : Nat) ∧ wt t c z (5 : Nat) = wt t c (12 : Nat) (5 : Nat) ∧ wt t c z (6 : Nat) = wt t c (12 : Nat) (6 : Nat) ∧ wt t c z (7 : Nat) = wt t c (12 : Nat) (7 : Nat) ∧ wt t c z (8 : Nat) = wt t c (12 : Nat) (8 : Nat) ∧ wt t c z (9 : Nat) = wt t c (12 : Nat) (9 : Nat) ∧ wt t c z (10 : Nat) = wt t c (12 : Nat) (10 : Nat) ∧ wt t c z (11 : Nat) = wt t c (12 : Nat) (11 : Nat) ∧ True)) := by kernel_rfl
theorem withG2_vc (t : Nat → Int) (c : Cl) : withG2 t c = ((∃ (z : Nat), z ≤ (12 : Nat) ∧ rE (0 : Nat) ∧ rE (0 : Nat) ∧ rE (0 : Nat) ∧ rE (0 : Nat) ∧ rE (0 : Nat) ∧ rE (0 : Nat) ∧ (0 : Int) = (↑z : Int) ∧ t (0 : Nat) = wt t c z (0 : Nat) ∧ t (1 : Nat) = wt t c z (1 : Nat) ∧ t (2 : Nat) = wt t c z (2 : Nat) ∧ t (3 : Nat) = wt t c z (3 : Nat) ∧ t (4 : Nat) = wt t c z (4 : Nat) ∧ t (5 : Nat) = wt t c z (5 : Nat) ∧ t (6 : Nat) = wt t c z (6 : Nat) ∧ t (7 : Nat) = wt t c z (7 : Nat) ∧ t (8 : Nat) = wt t c z (8 : Nat) ∧ t (9 : Nat) = wt t c z (9 : Nat) ∧ t (10 : Nat) = wt t c z (10 : Nat) ∧ t (11 : Nat) = wt t c z (11 : Nat) ∧ rE (Fn.func (58 : FuncId)) ∧ rE (SV.denL c.cells) ∧ (tt4) ∧ rE (0 : Int) ∧ rE (0 : Int) ∧ rE (0 : Int) ∧ rE (0 : Int) ∧ rE (0 : Int) ∧ rE (0 : Int) ∧ rE (0 : Int) ∧ rE (0 : Int) ∧ rE (0 : Int) ∧ rE (0 : Int) ∧ rE (0 : Int) ∧ rE (0 : Int) ∧ True) ∧ ∀ (z : Nat), z ≤ (12 : Nat) → ((↑z : Int) < (12 : Int) → (0 : Nat) < (1 : Nat) ∧
 (tt4) ∧ ((0 : Int) ≤ (↑z : Int) ∧ (↑z : Int) ≤ (64 : Int)) ∧ (inP (↑z : Int) c.su → (0 : Int) ≤ (↑z : Int) ∧ (↑z : Int) < (↑(12 : Nat) : Int) ∧ (0 : Nat) < (1 : Nat) ∧ (0 : Nat) + (↑z : Int).toNat * (1 : Nat) < (12 : Nat) ∧ rI (cellZ (T12 (wt t c z)).cells ((0 : Nat) + (↑z : Int).toNat * (1 : Nat)) + (1 : Int)) ∧ (0 : Int) ≤ (↑z : Int) ∧ (↑z : Int) < (↑(12 : Nat) : Int) ∧ (0 : Nat) + (↑z : Int).toNat * (1 : Nat) < (12 : Nat) ∧ rI ((↑z : Int) + (1 : Int)) ∧ ∃ (z_1 : Nat), z_1 ≤ (12 : Nat) ∧ (12 : Nat) - z_1 < (12 : Nat) - z ∧ rE (0 : Nat) ∧ rE (0 : Nat) ∧ rE (0 : Nat) ∧ rE (0 : Nat) ∧ rE (0 : Nat) ∧ rE (0 : Nat) ∧ (↑z : Int) + (1 : Int) = (↑z_1 : Int) ∧ (if (0 : Nat) + (↑z : Int).toNat * (1 : Nat) = (0 : Nat) then cellZ (T12 (wt t c z)).cells ((0 : Nat) + (↑z : Int).toNat * (1 : Nat)) + (1 : Int) else wt t c z (0 : Nat)) = wt t c z_1 (0 : Nat) ∧ (if (0 : Nat) + (↑z : Int).toNat * (1 :
 Nat) = (0 : Nat) + (1 : Nat) then cellZ (T12 (wt t c z)).cells ((0 : Nat) + (↑z : Int).toNat * (1 : Nat)) + (1 : Int) else wt t c z (1 : Nat)) = wt t c z_1 (1 : Nat) ∧ (if (0 : Nat) + (↑z : Int).toNat * (1 : Nat) = (0 : Nat) + (1 : Nat) + (1 : Nat) then cellZ (T12 (wt t c z)).cells ((0 : Nat) + (↑z : Int).toNat * (1 : Nat)) + (1 : Int) else wt t c z (2 : Nat)) = wt t c z_1 (2 : Nat) ∧ (if (0 : Nat) + (↑z : Int).toNat * (1 : Nat) = (0 : Nat) + (1 : Nat) + (1 : Nat) + (1 : Nat) then cellZ (T12 (wt t c z)).cells ((0 : Nat) + (↑z : Int).toNat * (1 : Nat)) + (1 : Int) else wt t c z (3 : Nat)) = wt t c z_1 (3 : Nat) ∧ (if (0 : Nat) + (↑z : Int).toNat * (1 : Nat) = (0 : Nat) + (1 : Nat) + (1 : Nat) + (1 : Nat) + (1 : Nat) then cellZ (T12 (wt t c z)).cells ((0 : Nat) + (↑z : Int).toNat * (1 : Nat)) + (1 : Int) else wt t c z (4 : Nat)) = wt t c z_1 (4 : Nat) ∧ (if (0 : Nat) + (↑z : Int).toNat *
 (1 : Nat) = (0 : Nat) + (1 : Nat) + (1 : Nat) + (1 : Nat) + (1 : Nat) + (1 : Nat) then cellZ (T12 (wt t c z)).cells ((0 : Nat) + (↑z : Int).toNat * (1 : Nat)) + (1 : Int) else wt t c z (5 : Nat)) = wt t c z_1 (5 : Nat) ∧ (if (0 : Nat) + (↑z : Int).toNat * (1 : Nat) = (0 : Nat) + (1 : Nat) + (1 : Nat) + (1 : Nat) + (1 : Nat) + (1 : Nat) + (1 : Nat) then cellZ (T12 (wt t c z)).cells ((0 : Nat) + (↑z : Int).toNat * (1 : Nat)) + (1 : Int) else wt t c z (6 : Nat)) = wt t c z_1 (6 : Nat) ∧ (if (0 : Nat) + (↑z : Int).toNat * (1 : Nat) = (0 : Nat) + (1 : Nat) + (1 : Nat) + (1 : Nat) + (1 : Nat) + (1 : Nat) + (1 : Nat) + (1 : Nat) then cellZ (T12 (wt t c z)).cells ((0 : Nat) + (↑z : Int).toNat * (1 : Nat)) + (1 : Int) else wt t c z (7 : Nat)) = wt t c z_1 (7 : Nat) ∧ (if (0 : Nat) + (↑z : Int).toNat * (1 : Nat) = (0 : Nat) + (1 : Nat) + (1 : Nat) + (1 : Nat) + (1 : Nat) + (1 : Nat) + (1 : Nat) +
 (1 : Nat) + (1 : Nat) then cellZ (T12 (wt t c z)).cells ((0 : Nat) + (↑z : Int).toNat * (1 : Nat)) + (1 : Int) else wt t c z (8 : Nat)) = wt t c z_1 (8 : Nat) ∧ (if (0 : Nat) + (↑z : Int).toNat * (1 : Nat) = (0 : Nat) + (1 : Nat) + (1 : Nat) + (1 : Nat) + (1 : Nat) + (1 : Nat) + (1 : Nat) + (1 : Nat) + (1 : Nat) + (1 : Nat) then cellZ (T12 (wt t c z)).cells ((0 : Nat) + (↑z : Int).toNat * (1 : Nat)) + (1 : Int) else wt t c z (9 : Nat)) = wt t c z_1 (9 : Nat) ∧ (if (0 : Nat) + (↑z : Int).toNat * (1 : Nat) = (0 : Nat) + (1 : Nat) + (1 : Nat) + (1 : Nat) + (1 : Nat) + (1 : Nat) + (1 : Nat) + (1 : Nat) + (1 : Nat) + (1 : Nat) + (1 : Nat) then cellZ (T12 (wt t c z)).cells ((0 : Nat) + (↑z : Int).toNat * (1 : Nat)) + (1 : Int) else wt t c z (10 : Nat)) = wt t c z_1 (10 : Nat) ∧ (if (0 : Nat) + (↑z : Int).toNat * (1 : Nat) = (0 : Nat) + (1 : Nat) + (1 : Nat) + (1 : Nat) + (1 : Nat) + (1 : Nat)
 + (1 : Nat) + (1 : Nat) + (1 : Nat) + (1 : Nat) + (1 : Nat) + (1 : Nat) then cellZ (T12 (wt t c z)).cells ((0 : Nat) + (↑z : Int).toNat * (1 : Nat)) + (1 : Int) else wt t c z (11 : Nat)) = wt t c z_1 (11 : Nat) ∧ rE (Fn.func (58 : FuncId)) ∧ rE (SV.denL c.cells) ∧ (tt4) ∧ rE (0 : Int) ∧ rE (0 : Int) ∧ rE (0 : Int) ∧ rE (0 : Int) ∧ rE (0 : Int) ∧ rE (0 : Int) ∧ rE (0 : Int) ∧ rE (0 : Int) ∧ rE (0 : Int) ∧ rE (0 : Int) ∧ rE (0 : Int) ∧ rE (0 : Int) ∧ True) ∧ (¬inP (↑z : Int) c.su → rI ((↑z : Int) + (1 : Int)) ∧ ∃ (z_1 : Nat), z_1 ≤ (12 : Nat) ∧ (12 : Nat) - z_1 < (12 : Nat) - z ∧ rE (0 : Nat) ∧ rE (0 : Nat) ∧ rE (0 : Nat) ∧ rE (0 : Nat) ∧ rE (0 : Nat) ∧ rE (0 : Nat) ∧ (↑z : Int) + (1 : Int) = (↑z_1 : Int) ∧ wt t c z (0 : Nat) = wt t c z_1 (0 : Nat) ∧ wt t c z (1 : Nat) = wt t c z_1 (1 : Nat) ∧ wt t c z (2 : Nat) = wt t c z_1 (2 : Nat) ∧ wt t c z (3 : Nat) = wt t c z_1 (3 : Nat) ∧ wt t c z
 (4 : Nat) = wt t c z_1 (4 : Nat) ∧ wt t c z (5 : Nat) = wt t c z_1 (5 : Nat) ∧ wt t c z (6 : Nat) = wt t c z_1 (6 : Nat) ∧ wt t c z (7 : Nat) = wt t c z_1 (7 : Nat) ∧ wt t c z (8 : Nat) = wt t c z_1 (8 : Nat) ∧ wt t c z (9 : Nat) = wt t c z_1 (9 : Nat) ∧ wt t c z (10 : Nat) = wt t c z_1 (10 : Nat) ∧ wt t c z (11 : Nat) = wt t c z_1 (11 : Nat) ∧ rE (Fn.func (58 : FuncId)) ∧ rE (SV.denL c.cells) ∧ (tt4) ∧ rE (0 : Int) ∧ rE (0 : Int) ∧ rE (0 : Int) ∧ rE (0 : Int) ∧ rE (0 : Int) ∧ rE (0 : Int) ∧ rE (0 : Int) ∧ rE (0 : Int) ∧ rE (0 : Int) ∧ rE (0 : Int) ∧ rE (0 : Int) ∧ rE (0 : Int) ∧ True)) ∧ (¬(↑z : Int) < (12 : Int) → (0 : Nat) < (1 : Nat) ∧ (0 : Nat) < (1 : Nat) ∧ wt t c z (0 : Nat) = wt t c (12 : Nat) (0 : Nat) ∧ wt t c z (1 : Nat) = wt t c (12 : Nat) (1 : Nat) ∧ wt t c z (2 : Nat) = wt t c (12 : Nat) (2 : Nat) ∧ wt t c z (3 : Nat) = wt t c (12 : Nat) (3 : Nat) ∧ wt t c z (4 : Nat) = wt
 t c (12 : Nat) (4 : Nat) ∧ wt t c z (5 : Nat) = wt t c (12 : Nat) (5 : Nat) ∧ wt t c z (6 : Nat) = wt t c (12 : Nat) (6 : Nat) ∧ wt t c z (7 : Nat) = wt t c (12 : Nat) (7 : Nat) ∧ wt t c z (8 : Nat) = wt t c (12 : Nat) (8 : Nat) ∧ wt t c z (9 : Nat) = wt t c (12 : Nat) (9 : Nat) ∧ wt t c z (10 : Nat) = wt t c (12 : Nat) (10 : Nat) ∧ wt t c z (11 : Nat) = wt t c (12 : Nat) (11 : Nat) ∧ True)) := by kernel_rfl
end Go.Proofs.Ytfjfnpknlkonnaa

set_option maxRecDepth 100000
namespace Go.Proofs.Ytfjfnpknlkonnaa
open Go Go.Lg
attribute [local irreducible] bodyH
theorem cell12 (f : Nat → Int) {z : Nat} (h : z < 12) : cellZ (T12 f).cells z = f z := by
  have : z = 0 ∨ z = 1 ∨ z = 2 ∨ z = 3 ∨ z = 4 ∨ z = 5 ∨ z = 6 ∨ z = 7 ∨ z = 8 ∨ z = 9 ∨ z = 10 ∨ z = 11 := by omega
  rcases this with rfl | rfl | rfl | rfl | rfl | rfl | rfl | rfl | rfl | rfl | rfl | rfl <;> rfl
theorem wt_0 (t : Nat → Int) (c : Cl) (i : Nat) : t i = wt t c 0 i := by simp [wt]
theorem wt_at (t : Nat → Int) (c : Cl) (k : Nat) : wt t c k k = t k := by simp [wt]
theorem wt_y {t : Nat → Int} {c : Cl} {k : Nat} (h : agP c k) (i : Nat) : (if k = i then wt t c k k + 1 else wt t c k i) = wt t c (k + 1) i := by
  by_cases e : k = i
  · subst e
    rw [if_pos rfl, wt_at]
    simp [wt, agN, h]
  · rw [if_neg e]
    have : (i < k + 1) = (i < k) := propext ⟨fun _ => by omega, fun _ => by omega⟩
    simp [wt, this]
theorem wt_n {t : Nat → Int} {c : Cl} {k : Nat} (h : ¬ agP c k) (i : Nat) : wt t c k i = wt t c (k + 1) i := by
  by_cases e : k = i
  · subst e
    rw [wt_at]
    simp [wt, agN, h]
  · have : (i < k + 1) = (i < k) := propext ⟨fun _ => by omega, fun _ => by omega⟩
    simp [wt, this]
theorem isIn_true {n s : Int} (h : 0 ≤ n ∧ n ≤ 64) : isInG n s := by
  rw [isInG_vc]
  exact ⟨h, Iff.rfl, trivial⟩
structure okT (t : Nat → Int) : Prop where
  h : ∀ i, i < 12 → 0 ≤ t i ∧ t i ≤ 1000
theorem ag_y {c : Cl} {n : Nat} (hc : c.g = true) : agP c n ↔ ¬ inP n c.ca := ⟨fun h => h.elim (fun h => h.2) fun h => absurd hc h.1, fun h => .inl ⟨hc, h⟩⟩
theorem ag_n {c : Cl} {n : Nat} (hc : ¬ c.g = true) : agP c n ↔ inP n c.su := ⟨fun h => h.elim (fun h => absurd h.1 hc) fun h => h.2, fun h => .inr ⟨hc, h⟩⟩
theorem with_true {t : Nat → Int} {c : Cl} (ht : okT t) (hc : c.g = true) : withG t c := by
  rw [withG_vc]
  simp only [rI, rE, tt3, tt4, tt5, tt13, tt14, and_true, true_and, Nat.zero_lt_one, Int.toNat_natCast, Classical.not_not, and_self, Nat.zero_add, Nat.mul_one, Nat.add_zero, Nat.reduceAdd]
  have Z := wt_0 t c
  refine ⟨⟨0, by omega, rfl, Z 0, Z 1, Z 2, Z 3, Z 4, Z 5, Z 6, Z 7, Z 8, Z 9, Z 10, Z 11⟩, fun z hz => ⟨fun hl => ⟨by omega, fun h => ?_, fun h => ?_⟩, fun hl => ?_⟩⟩
  · have hz' : z < 12 := by omega
    rw [cell12 _ hz']
    have hb := ht.h z hz'
    have Y := wt_y (t := t) (c := c) (k := z) ((ag_y hc).2 h)
    have e := wt_at t c z
    refine ⟨by omega, hl, hz', by omega, by omega, hl, hz', by omega, z + 1, by omega, by omega, by omega, Y 0, Y 1, Y 2, Y 3, Y 4, Y 5, Y 6, Y 7, Y 8, Y 9, Y 10, Y 11⟩
  · have Y := wt_n (t := t) (c := c) (k := z) (fun hh => (ag_y hc).1 hh h)
    exact ⟨by omega, z + 1, by omega, by omega, by omega, Y 0, Y 1, Y 2, Y 3, Y 4, Y 5, Y 6, Y 7, Y 8, Y 9, Y 10, Y 11⟩
  · have : z = 12 := by omega
    subst this
    exact ⟨rfl, rfl, rfl, rfl, rfl, rfl, rfl, rfl, rfl, rfl, rfl, rfl⟩
theorem with2_true {t : Nat → Int} {c : Cl} (ht : okT t) (hc : ¬ c.g = true) : withG2 t c := by
  rw [withG2_vc]
  simp only [rI, rE, tt3, tt4, tt5, tt13, tt14, and_true, true_and, Nat.zero_lt_one, Int.toNat_natCast, Classical.not_not, and_self, Nat.zero_add, Nat.mul_one, Nat.add_zero, Nat.reduceAdd]
  have Z := wt_0 t c
  refine ⟨⟨0, by omega, rfl, Z 0, Z 1, Z 2, Z 3, Z 4, Z 5, Z 6, Z 7, Z 8, Z 9, Z 10, Z 11⟩, fun z hz => ⟨fun hl => ⟨by omega, fun h => ?_, fun h => ?_⟩, fun hl => ?_⟩⟩
  · have hz' : z < 12 := by omega
    rw [cell12 _ hz']
    have hb := ht.h z hz'
    have Y := wt_y (t := t) (c := c) (k := z) ((ag_n hc).2 h)
    have e := wt_at t c z
    refine ⟨by omega, hl, hz', by omega, by omega, hl, hz', by omega, z + 1, by omega, by omega, by omega, Y 0, Y 1, Y 2, Y 3, Y 4, Y 5, Y 6, Y 7, Y 8, Y 9, Y 10, Y 11⟩
  · have Y := wt_n (t := t) (c := c) (k := z) (fun hh => h ((ag_n hc).1 hh))
    exact ⟨by omega, z + 1, by omega, by omega, by omega, Y 0, Y 1, Y 2, Y 3, Y 4, Y 5, Y 6, Y 7, Y 8, Y 9, Y 10, Y 11⟩
  · have : z = 12 := by omega
    subst this
    exact ⟨rfl, rfl, rfl, rfl, rfl, rfl, rfl, rfl, rfl, rfl, rfl, rfl⟩
end Go.Proofs.Ytfjfnpknlkonnaa

namespace Go.Proofs.Ytfjfnpknlkonnaa
open Go Go.Lg
attribute [local irreducible] bodyH
structure Iq where
  ma : Int
  wr : Int
  fo : Nat → Int
open Classical in
noncomputable def susN (t : Nat → Int) (wr : Int) : Nat → Nat
  | 0 => 0
  | k + 1 => susN t wr k + (if t k ≤ wr then 1 else 0)
noncomputable def susL (t : Nat → Int) (wr : Int) (m : Nat) : List Nat := (List.range m).filter fun k => decide (t k ≤ wr)
structure Cs where
  n : Nat
  g : Nat → Bool
  su : Nat → Int
  ca : Nat → Int
def hoV (h : Cs) : SV := .lst 2 h.n fun k => .agg [.clo (.func 57) [] [.ipt [.bool true, i6 (h.su k), i6 (h.ca k)]], .clo (.func 58) [] [.ipt [.bool false, i6 (h.su k), i6 (h.ca k)]]]
def iqV (ma wr : Int) (fo : Nat → Int) (h : Cs) : List SV := [i6 ma, i6 wr, i6 (fo 0), i6 (fo 1), i6 (fo 2), i6 (fo 3), i6 (fo 4), i6 (fo 5), i6 (fo 6), i6 (fo 7), i6 (fo 8), i6 (fo 9), i6 (fo 10), i6 (fo 11), hoV h]
noncomputable def allH : HSpec := { toLSpec := { σ := Unit, inv := fun _ => True, μ := fun _ => 0, nr := 0, ms := fun _ _ => [], t := fun _ => .nil, X := fun _ => ⟨0, .nil⟩, rd := fun _ _ k => k (), rdOK := fun _ _ _ h => ⟨(), h⟩ }, all := true }
noncomputable def bitsG (ma : Nat) (wr : Int) (fo t : Nat → Int) (h : Cs) : Prop := itH Try.prog (ctrs []) noX (ictrs [])
  (twoL 1003 allH <|
   oneL 0 (natH (fun i => i ≤ ma) (fun i => ma - i) 1 (fun i => mkF 24 [(0, .yld 0), (1, .ipt (iqV ma wr fo h)), (2, .ipt (cells' (T12 t))), (6, i6 ma), (7, i6 i)]) (fun _ => ⟨1, .nil⟩) fun i => some (susN t wr i))) noL 59 [] [.ipt (iqV ma wr fo h), .ipt (cells' (T12 t))] (susL t wr ma).length fun i => [i6 (shP ((susL t wr ma).getD i 0 : Nat))]
end Go.Proofs.Ytfjfnpknlkonnaa

set_option maxRecDepth 100000
namespace Go.Proofs.Ytfjfnpknlkonnaa
open Go Go.Lg
def bitsG0 (ma : Nat) (wr : Int) (fo : Nat → Int) (t : Nat → Int) (h : Cs) (z : Nat) : Prop := ((((cellZ (cells' (T12 t)) ((↑z : Int).toNat * (1 : Nat)) ≤ wr → ((((0 : Int) ≤ (↑z : Int) ∧ (↑z : Int) ≤ (↑(64 : Nat) : Int)) ∧ rI ((1 : Int) * shP (↑z : Int)) ∧ (susN t wr z < (susL t wr ma).length ∧ (1 : Int) * shP (↑z : Int) = shP (↑((susL t wr ma).getD (susN t wr z) (0 : Nat)) : Int) ∧ (((rI ((↑z : Int) + (1 : Int)) ∧ ∃ (z_1 : Nat), z_1 ≤ ma ∧ ma - z_1 < ma - z ∧ (susN t wr z).succ = susN t wr z_1 ∧ rE (SV.denL (iqV (↑ma : Int) wr fo h)) ∧ (True ∧ True ∧ True ∧ True ∧ True ∧ True ∧ True ∧ True ∧ True ∧ True ∧ True ∧ True ∧ True ∧ True ∧ (∀ (i : Nat), i < h.1 → (True ∧ (tt4) ∧ True) ∧ (True ∧ (tt4) ∧ True) ∧ True) ∧ True) ∧ rE (SV.denL (cells' (T12 t))) ∧ (tt13) ∧ rE (↑ma : Int) ∧ (↑z : Int) + (1 : Int) = (↑z_1 : Int) ∧ True) ∧ True) ∧ True) ∧ (True ∧ True) ∧ True) ∧ True) ∧ True) ∧ True) ∧ (¬cellZ (cells' (T12 t)) ((↑z : Int).toNat * (1 : Nat)) ≤ wr → (((((rI ((↑z : Int) + (1 : Int)) ∧ ∃ (z_1 : Nat), z_1 ≤ ma ∧ ma - z_1 < ma - z ∧ susN t wr z = susN t wr z_1 ∧ rE (SV.denL (iqV (↑ma : Int) wr fo h)) ∧ (True ∧ True ∧ True ∧ True ∧ True ∧ True ∧ True ∧ True ∧ True ∧ True ∧ True ∧ True ∧ True ∧ True ∧ (∀ (i : Nat), i < h.1 → (True ∧ (tt4) ∧ True) ∧ (True ∧ (tt4) ∧ True) ∧ True) ∧ True) ∧ rE (SV.denL (cells' (T12 t))) ∧ (tt13) ∧ rE (↑ma : Int) ∧ (↑z : Int) + (1 : Int) = (↑z_1 : Int) ∧ True) ∧ True) ∧ True) ∧ True) ∧ True) ∧ True)) ∧ ((cellZ (cells' (T12 t)) ((↑z : Int).toNat * (1 : Nat)) ≤ wr → ((((0 : Int) ≤ (↑z : Int) ∧ (↑z : Int) ≤ (↑(64 : Nat) : Int)) ∧ rI ((1 : Int) * shP (↑z : Int)) ∧ (susN t wr z < (susL t wr ma).length ∧ (1 : Int) * shP (↑z : Int) = shP (↑((susL t wr ma).getD (susN t wr z) (0 : Nat)) : Int) ∧ (((rI ((↑z : Int) + (1 : Int)) ∧ ∃ (z_1 : Nat), z_1 ≤ ma ∧ ma - z_1 < ma - z ∧ (susN t wr z).succ = susN t wr z_1 ∧ rE (SV.denL (iqV (↑ma : Int) wr fo h)) ∧ (True ∧ True ∧ True ∧ True ∧ True ∧ True ∧ True ∧ True ∧ True ∧ True ∧ True ∧ True ∧ True ∧ True ∧ (∀ (i : Nat), i < h.1 → (True ∧ (tt4) ∧ True) ∧ (True ∧ (tt4) ∧ True) ∧ True) ∧ True) ∧ rE (SV.denL (cells' (T12 t))) ∧ (tt13) ∧ rE (↑ma : Int) ∧ (↑z : Int) + (1 : Int) = (↑z_1 : Int) ∧ True) ∧ True) ∧ True) ∧ (True ∧ True) ∧ True) ∧ True) ∧ True) ∧ (((0 : Int) ≤ (↑z : Int) ∧ (↑z : Int) ≤ (↑(64 : Nat) : Int)) ∧ rI ((1 : Int) * shP (↑z : Int)) ∧ ((susN t wr z < (susL t wr ma).length ∧ (1 : Int) * shP (↑z : Int) = shP (↑((susL t wr ma).getD (susN t wr z) (0 : Nat)) : Int) ∧ (((rI ((↑z : Int) + (1 : Int)) ∧ ∃ (z_1 : Nat), z_1 ≤ ma ∧ ma - z_1 < ma - z ∧ (susN t wr z).succ = susN t wr z_1 ∧ rE (SV.denL (iqV (↑ma : Int) wr fo h)) ∧ (True ∧ True ∧ True ∧ True ∧ True ∧ True ∧ True ∧ True ∧ True ∧ True ∧ True ∧ True ∧ True ∧ True ∧ (∀ (i : Nat), i < h.1 → (True ∧ (tt4) ∧ True) ∧ (True ∧ (tt4) ∧ True) ∧ True) ∧ True) ∧ rE (SV.denL (cells' (T12 t))) ∧ (tt13) ∧ rE (↑ma : Int) ∧ (↑z : Int) + (1 : Int) = (↑z_1 : Int) ∧ True) ∧ True) ∧ True) ∧ (True ∧ True) ∧ True) ∧ True) ∧ True) ∧ True) ∧ (¬cellZ (cells' (T12 t)) ((↑z : Int).toNat * (1 : Nat)) ≤ wr → (((((rI ((↑z : Int) + (1 : Int)) ∧ ∃ (z_1 : Nat), z_1 ≤ ma ∧ ma - z_1 < ma - z ∧ susN t wr z = susN t wr z_1 ∧ rE (SV.denL (iqV (↑ma : Int) wr fo h)) ∧ (True ∧ True ∧ True ∧ True ∧ True ∧ True ∧ True ∧ True ∧ True ∧ True ∧ True ∧ True ∧ True ∧ True ∧ (∀ (i : Nat), i < h.1 → (True ∧ (tt4) ∧ True) ∧ (True ∧ (tt4) ∧ True) ∧ True) ∧ True) ∧ rE (SV.denL (cells' (T12 t))) ∧ (tt13) ∧ rE (↑ma : Int) ∧ (↑z : Int) + (1 : Int) = (↑z_1 : Int) ∧ True) ∧ True) ∧ True) ∧ True) ∧ True) ∧ (((((rI ((↑z : Int) + (1 : Int)) ∧ ∃ (z_1 : Nat), z_1 ≤ ma ∧ ma - z_1 < ma - z ∧ susN t wr z = susN t wr z_1 ∧ rE (SV.denL (iqV (↑ma : Int) wr fo h)) ∧ (True ∧ True ∧ True ∧ True ∧ True ∧ True ∧ True ∧ True ∧ True ∧ True ∧ True ∧ True ∧ True ∧ True ∧ (∀ (i : Nat), i < h.1 → (True ∧ (tt4) ∧ True) ∧ (True ∧ (tt4) ∧ True) ∧ True) ∧ True) ∧ rE (SV.denL (cells' (T12 t))) ∧ (tt13) ∧ rE (↑ma : Int) ∧ (↑z : Int) + (1 : Int) = (↑z_1 : Int) ∧ True) ∧ True) ∧ True) ∧ True) ∧ True) ∧ True)) ∧ True) ∧ True)
def bitsG1 (ma : Nat) (wr : Int) (fo : Nat → Int) (t : Nat → Int) (h : Cs) (z : Nat) : Prop := (((0 : Int) ≤ (↑z : Int) ∧ (↑z : Int) < (↑(12 : Nat) : Int) ∧ ((↑z : Int).toNat * (1 : Nat) < (12 : Nat) ∧ ((bitsG0 ma wr fo t h z) ∧ True) ∧ True) ∧ (((↑z : Int).toNat * (1 : Nat) < (12 : Nat) ∧ (bitsG0 ma wr fo t h z) ∧ True) ∧ True) ∧ True) ∧ (((0 : Int) ≤ (↑z : Int) ∧ (↑z : Int) < (↑(12 : Nat) : Int) ∧ ((↑z : Int).toNat * (1 : Nat) < (12 : Nat) ∧ (bitsG0 ma wr fo t h z) ∧ True) ∧ True) ∧ True) ∧ True)
theorem bitsG_vc (ma : Nat) (wr : Int) (fo : Nat → Int) (t : Nat → Int) (h : Cs) : bitsG ma wr fo t h = ((∃ (z : Nat), z ≤ ma ∧ (0 : Nat) = susN t wr z ∧ rE (SV.denL (iqV (↑ma : Int) wr fo h)) ∧ (True ∧ True ∧ True ∧ True ∧ True ∧ True ∧ True ∧ True ∧ True ∧ True ∧ True ∧ True ∧ True ∧ True ∧ (∀ (i : Nat), i < h.1 → (True ∧ (tt4) ∧ True) ∧ (True ∧ (tt4) ∧ True) ∧ True) ∧ True) ∧ rE (SV.denL (cells' (T12 t))) ∧ (tt13) ∧ rE (↑ma : Int) ∧ (0 : Int) = (↑z : Int) ∧ True) ∧ ∀ (z : Nat), z ≤ ma → ((↑z : Int) < (↑ma : Int) → (((0 : Int) ≤ (↑z : Int) ∧ (↑z : Int) < (↑(12 : Nat) : Int) ∧ ((↑z : Int).toNat * (1 : Nat) < (12 : Nat) ∧ (((bitsG0 ma wr fo t h z) ∧ True) ∧ True) ∧ True) ∧ (((↑z : Int).toNat * (1 : Nat) < (12 : Nat) ∧ ((bitsG0 ma wr fo t h z) ∧ True) ∧ True) ∧ (((↑z : Int).toNat * (1 : Nat) < (12 : Nat) ∧ (bitsG0 ma wr fo t h z) ∧ True) ∧ True) ∧ True) ∧ True) ∧ (bitsG1 ma wr fo t h z) ∧ True) ∧ ((bitsG1 ma wr fo t h z) ∧ ((((0 : Int) ≤ (↑z : Int) ∧ (↑z : Int) < (↑(12 : Nat) : Int) ∧ ((↑z
 : Int).toNat * (1 : Nat) < (12 : Nat) ∧ (bitsG0 ma wr fo t h z) ∧ True) ∧ True) ∧ True) ∧ True) ∧ True) ∧ True) ∧ (¬(↑z : Int) < (↑ma : Int) → susN t wr z = (susL t wr ma).length)) := by kernel_rfl
end Go.Proofs.Ytfjfnpknlkonnaa

set_option maxRecDepth 100000
namespace Go.Proofs.Ytfjfnpknlkonnaa
open Go Go.Lg
attribute [local irreducible] bodyH
theorem cell12' (f : Nat → Int) {z : Nat} (h : z < 12) : cellZ (cells' (T12 f)) z = f z := cell12 f h
open Classical in
theorem susL_succ (t : Nat → Int) (wr : Int) (m : Nat) : susL t wr (m + 1) = susL t wr m ++ (if t m ≤ wr then [m] else []) := by
  unfold susL
  rw [List.range_succ, List.filter_append]
  congr 1
  by_cases h : t m ≤ wr <;> simp [h]
open Classical in
theorem sus_len (t : Nat → Int) (wr : Int) : ∀ m, susN t wr m = (susL t wr m).length
  | 0 => by simp [susN, susL]
  | m + 1 => by
    rw [susL_succ, List.length_append, ← sus_len t wr m]
    simp only [susN]
    by_cases h : t m ≤ wr <;> simp [h]
open Classical in
theorem sus_get {t : Nat → Int} {wr : Int} {z : Nat} (hz : t z ≤ wr) : ∀ {m : Nat}, z < m → susN t wr z < (susL t wr m).length ∧ (susL t wr m).getD (susN t wr z) 0 = z
  | 0, h => by omega
  | m + 1, h => by
    rw [susL_succ, List.length_append]
    rcases Nat.lt_succ_iff_lt_or_eq.1 h with h' | rfl
    · obtain ⟨h1, h2⟩ := sus_get hz h'
      refine ⟨by omega, ?_⟩
      have e : ∀ l2 : List Nat, (susL t wr m ++ l2).getD (susN t wr z) 0 = (susL t wr m).getD (susN t wr z) 0 := fun l2 => by simp [List.getD, List.getElem?_append_left h1]
      rw [e]; exact h2
    · rw [if_pos hz, sus_len]
      refine ⟨by simp, ?_⟩
      simp [List.getD]
theorem shP_12 {z : Nat} (h : z < 12) : 1 ≤ shP (z : Int) ∧ shP (z : Int) ≤ 2048 := by
  have : z = 0 ∨ z = 1 ∨ z = 2 ∨ z = 3 ∨ z = 4 ∨ z = 5 ∨ z = 6 ∨ z = 7 ∨ z = 8 ∨ z = 9 ∨ z = 10 ∨ z = 11 := by omega
  rcases this with rfl | rfl | rfl | rfl | rfl | rfl | rfl | rfl | rfl | rfl | rfl | rfl <;> decide
theorem bits_true {ma : Nat} {wr : Int} {fo t : Nat → Int} {h : Cs} (hm : 1 ≤ ma ∧ ma ≤ 12) : bitsG ma wr fo t h := by
  rw [bitsG_vc]
  simp only [bitsG0, bitsG1, rI, rE, tt3, tt4, tt5, tt13, tt14, and_true, true_and, Int.toNat_natCast, and_self, Nat.mul_one, implies_true, Int.one_mul]
  refine ⟨⟨0, by omega, rfl, rfl⟩, fun z hz => ⟨fun hl => ⟨by omega, by show (z : Int) < (12 : Int); omega, by omega, fun hw => ?_, fun hw => ?_⟩, fun hl => ?_⟩⟩
  · rw [cell12' _ (by omega)] at hw
    obtain ⟨g1, g2⟩ := sus_get (m := ma) hw (by omega)
    have hp := shP_12 (z := z) (by omega)
    refine ⟨⟨by omega, by show (z : Int) ≤ (64 : Int); omega⟩, by omega, g1, by rw [g2], by omega, z + 1, by omega, by omega, by simp [susN, hw], by omega⟩
  · rw [cell12' _ (by omega)] at hw
    exact ⟨by omega, z + 1, by omega, by omega, by simp [susN, hw], by omega⟩
  · have : z = ma := by omega
    subst this
    exact sus_len t wr z
end Go.Proofs.Ytfjfnpknlkonnaa
