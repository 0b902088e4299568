import Derived.Test.YtfjfnpknlkonnaaKxKxVKyKzKzVLzaLzb
set_option linter.unusedVariables false
set_option linter.unusedSimpArgs false
set_option maxRecDepth 100000
namespace Go.Proofs.Ytfjfnpknlkonnaa
open Go Go.Lg
attribute [local irreducible] bodyH
open Classical in
noncomputable def fiL (p : Nat → Prop) (k : Nat) : List Nat := (List.range k).filter fun j => decide (p j)
def lstI (l : List Nat) : SV := .lst 1 l.length fun k => i6 (l.getD k 0 : Nat)
noncomputable def agQ (c : Dl) (m : Int) (k : Nat) : Prop := agP ((csD c).cl k) m
noncomputable def spQ (c : Dl) (m : Int) (k : Nat) : Prop := spP (c.g k).p (c.su k) (c.ca k) m
noncomputable def csA : CSpec := ctrsF [foC] (ctrs [agC 57 true, agC 58 false])
noncomputable def agsG (c : Dl) (m : Int) : Prop := funH Try.prog csA noX (ictrs []) (oneL 0 (filH 26 5 (fun z => z ≤ c.n ∧ fiL (agQ c m) z = []) (fun z => z ≤ c.n) (fun z => c.n - z) 0
  (fun z => mkF 26 [(1, i6 m), (5, nilS), (8, c.sv), (9, i6 c.n), (10, i6 z)]) (fun z => mkF 26 [(1, i6 m), (5, .sl 0 0 (fiL (agQ c m) z).length), (8, c.sv), (9, i6 c.n), (10, i6 z)])
  (fun _ => mkX []) (fun z => mkX [rw' 1 (fiL (agQ c m) z).length fun k => i6 ((fiL (agQ c m) z).getD k 0 : Nat)]))) noL 37 [c.sv, i6 m] (lstI (fiL (agQ c m) c.n))
open Classical in
noncomputable def agX (ma wr : Int) (cl ho : Dl) (m : Int) : List Nat := if okSR ma wr cl ho ∧ (0 ≤ m ∧ m ≤ ma - 1) then fiL (spQ cl m) cl.n else []
open Classical in
noncomputable def agE (ma wr : Int) (cl ho : Dl) (m : Int) : Int := if okSR ma wr cl ho then (if 0 ≤ m ∧ m ≤ ma - 1 then 0 else 2) else 1
noncomputable def ragG (ma wr : Int) (cl ho : Dl) (m : Int) : Prop := funH Try.prog (ctrs [seC, inC, spC]) noX (ictrs []) (oneL 0 (filH 36 6 (fun z => z ≤ cl.n ∧ fiL (spQ cl m) z = []) (fun z => z ≤ cl.n) (fun z => cl.n - z) 1
  (fun z => mkF 36 [(1, i6 m), (2, .ptr 0 0 0), (6, nilS), (7, i6 z)]) (fun z => mkF 36 [(1, i6 m), (2, .ptr 0 0 0), (6, .sl 1 0 (fiL (spQ cl m) z).length), (7, i6 z)])
  (fun _ => mkX [vr 4 (sqV ma wr cl ho)]) (fun z => mkX [vr 4 (sqV ma wr cl ho), rw' 1 (fiL (spQ cl m) z).length fun k => i6 ((fiL (spQ cl m) z).getD k 0 : Nat)]))) noL 16 [sqV ma wr cl ho, i6 m] (.tup [lstI (agX ma wr cl ho m), i6 (agE ma wr cl ho m)])
def li (n : Nat) (f : Nat → Int) : SV := .lst 1 n fun k => i6 (f k)
noncomputable def itsG (n n' : Nat) (f f' : Nat → Int) : Prop := funH Try.prog (ctrs []) noX (ictrs []) (oneL 0 (natH (fun z => z ≤ n ∧ ∀ i, i < z → f i = f' i) (fun z => n - z) 0
  (fun z => mkF 26 [(0, li n f), (1, li n' f'), (5, i6 z)]) (fun _ => mkX []) fun _ => none)) noL 19 [li n f, li n' f'] (.dec (n = n' ∧ ∀ i, i < n → f i = f' i) (Classical.propDecidable _))
end Go.Proofs.Ytfjfnpknlkonnaa

set_option maxRecDepth 100000
namespace Go.Proofs.Ytfjfnpknlkonnaa
open Go Go.Lg
def agsG0 (c : Dl) : Prop := (∀ (i : Nat), i < c.1 → rE ((SV.agg [SV.dec (c.g i).p (c.g i).i, i6 (c.su i), i6 (c.ca i)]).den) ∧ True ∧ True ∧ True ∧ True)
theorem agsG_vc (c : Dl) (m : Int) : agsG c m = ((∃ (z : Nat), (z ≤ c.1 ∧ fiL (agQ c m) z = []) ∧ m = m ∧ rE (Value.slice none (0 : Nat) (0 : Nat)) ∧ c.1 = c.1 ∧ (agsG0 c) ∧ rE (↑c.1 : Int) ∧ (0 : Int) = (↑z : Int) ∧ True) ∧ (∀ (z : Nat), z ≤ c.1 ∧ fiL (agQ c m) z = [] → ((↑z : Int) < (↑c.1 : Int) → (0 : Int) ≤ (↑z : Int) ∧ (↑z : Int) < (↑c.1 : Int) ∧ (0 : Nat) < (1 : Nat) ∧ ((c.g (↑z : Int).toNat).1 → (tt4) ∧ ((0 : Int) ≤ m ∧ m ≤ (64 : Int)) ∧ (¬inP m (c.ca (↑z : Int).toNat) → True ∧ (∀ (i : Nat), i < (1 : Nat) → rE true) ∧ (1 : Nat) * (8 : Nat) ≤ (140737488355328 : Nat) ∧ (1 : Nat) ≤ (4611686018427387904 : Nat) ∧ rI ((↑z : Int) + (1 : Int)) ∧ ∃ (z_1 : Nat), z_1 ≤ c.1 ∧ c.1 - z_1 < c.1 - z ∧ m = m ∧ rE (0 : Nat) ∧ (1 : Nat) = (fiL (agQ c m) z_1).length ∧ c.1 = c.1 ∧ (agsG0 c) ∧ rE (↑c.1 : Int) ∧ (↑z : Int) + (1 : Int) = (↑z_1 : Int) ∧ (fiL (agQ c m) z_1).length = (1 : Nat) ∧ (∀ (i : Nat), i < (fiL (agQ c m) z_1).length → rE (1 : Nat)
 ∧ (↑z : Int) = (↑((fiL (agQ c m) z_1).getD i (0 : Nat)) : Int) ∧ True) ∧ True) ∧ (¬¬inP m (c.ca (↑z : Int).toNat) → rI ((↑z : Int) + (1 : Int)) ∧ ∃ (z_1 : Nat), (z_1 ≤ c.1 ∧ fiL (agQ c m) z_1 = []) ∧ c.1 - z_1 < c.1 - z ∧ m = m ∧ rE (Value.slice none (0 : Nat) (0 : Nat)) ∧ c.1 = c.1 ∧ (agsG0 c) ∧ rE (↑c.1 : Int) ∧ (↑z : Int) + (1 : Int) = (↑z_1 : Int) ∧ True)) ∧ (¬(c.g (↑z : Int).toNat).1 → (tt4) ∧ ((0 : Int) ≤ m ∧ m ≤ (64 : Int)) ∧ (inP m (c.su (↑z : Int).toNat) → True ∧ (∀ (i : Nat), i < (1 : Nat) → rE true) ∧ (1 : Nat) * (8 : Nat) ≤ (140737488355328 : Nat) ∧ (1 : Nat) ≤ (4611686018427387904 : Nat) ∧ rI ((↑z : Int) + (1 : Int)) ∧ ∃ (z_1 : Nat), z_1 ≤ c.1 ∧ c.1 - z_1 < c.1 - z ∧ m = m ∧ rE (0 : Nat) ∧ (1 : Nat) = (fiL (agQ c m) z_1).length ∧ c.1 = c.1 ∧ (agsG0 c) ∧ rE (↑c.1 : Int) ∧ (↑z : Int) + (1 : Int) = (↑z_1 : Int) ∧ (fiL (agQ c m) z_1).length = (1 : Nat) ∧ (∀ (i : Nat), i < (fiL
 (agQ c m) z_1).length → rE (1 : Nat) ∧ (↑z : Int) = (↑((fiL (agQ c m) z_1).getD i (0 : Nat)) : Int) ∧ True) ∧ True) ∧ (¬inP m (c.su (↑z : Int).toNat) → rI ((↑z : Int) + (1 : Int)) ∧ ∃ (z_1 : Nat), (z_1 ≤ c.1 ∧ fiL (agQ c m) z_1 = []) ∧ c.1 - z_1 < c.1 - z ∧ m = m ∧ rE (Value.slice none (0 : Nat) (0 : Nat)) ∧ c.1 = c.1 ∧ (agsG0 c) ∧ rE (↑c.1 : Int) ∧ (↑z : Int) + (1 : Int) = (↑z_1 : Int) ∧ True))) ∧ (¬(↑z : Int) < (↑c.1 : Int) → (0 : Nat) = (fiL (agQ c m) c.n).length ∧ True)) ∧ ∀ (z : Nat), z ≤ c.1 → ((↑z : Int) < (↑c.1 : Int) → (0 : Int) ≤ (↑z : Int) ∧ (↑z : Int) < (↑c.1 : Int) ∧ (0 : Nat) < (1 : Nat) ∧ ((c.g (↑z : Int).toNat).1 → (tt4) ∧ ((0 : Int) ≤ m ∧ m ≤ (64 : Int)) ∧ (¬inP m (c.ca (↑z : Int).toNat) → True ∧ (∀ (i : Nat), i < (1 : Nat) → rE true) ∧ rE (0 : Nat) ∧ rE ((fiL (agQ c m) z).length) ∧ (∀ (i : Nat), rE true) ∧ ((fiL (agQ c m) z).length + (1 : Nat)) * (8 : Nat) ≤
 (140737488355328 : Nat) ∧ (fiL (agQ c m) z).length + (1 : Nat) ≤ (4611686018427387904 : Nat) ∧ rI ((↑z : Int) + (1 : Int)) ∧ ∃ (z_1 : Nat), z_1 ≤ c.1 ∧ c.1 - z_1 < c.1 - z ∧ m = m ∧ rE (0 : Nat) ∧ (fiL (agQ c m) z).length + (1 : Nat) = (fiL (agQ c m) z_1).length ∧ c.1 = c.1 ∧ (agsG0 c) ∧ rE (↑c.1 : Int) ∧ (↑z : Int) + (1 : Int) = (↑z_1 : Int) ∧ (fiL (agQ c m) z_1).length = (fiL (agQ c m) z).length + (1 : Nat) ∧ (∀ (i : Nat), i < (fiL (agQ c m) z_1).length → rE (1 : Nat) ∧ (if i < (fiL (agQ c m) z).length then (↑((fiL (agQ c m) z).getD i (0 : Nat)) : Int) else (↑z : Int)) = (↑((fiL (agQ c m) z_1).getD i (0 : Nat)) : Int) ∧ True) ∧ True) ∧ (¬¬inP m (c.ca (↑z : Int).toNat) → rI ((↑z : Int) + (1 : Int)) ∧ ∃ (z_1 : Nat), z_1 ≤ c.1 ∧ c.1 - z_1 < c.1 - z ∧ m = m ∧ rE (0 : Nat) ∧ (fiL (agQ c m) z).length = (fiL (agQ c m) z_1).length ∧ c.1 = c.1 ∧ (agsG0 c) ∧ rE (↑c.1 : Int) ∧ (↑z : Int) + (1 :
 Int) = (↑z_1 : Int) ∧ (fiL (agQ c m) z_1).length = (fiL (agQ c m) z).length ∧ (∀ (i : Nat), i < (fiL (agQ c m) z_1).length → rE (1 : Nat) ∧ (↑((fiL (agQ c m) z).getD i (0 : Nat)) : Int) = (↑((fiL (agQ c m) z_1).getD i (0 : Nat)) : Int) ∧ True) ∧ True)) ∧ (¬(c.g (↑z : Int).toNat).1 → (tt4) ∧ ((0 : Int) ≤ m ∧ m ≤ (64 : Int)) ∧ (inP m (c.su (↑z : Int).toNat) → True ∧ (∀ (i : Nat), i < (1 : Nat) → rE true) ∧ rE (0 : Nat) ∧ rE ((fiL (agQ c m) z).length) ∧ (∀ (i : Nat), rE true) ∧ ((fiL (agQ c m) z).length + (1 : Nat)) * (8 : Nat) ≤ (140737488355328 : Nat) ∧ (fiL (agQ c m) z).length + (1 : Nat) ≤ (4611686018427387904 : Nat) ∧ rI ((↑z : Int) + (1 : Int)) ∧ ∃ (z_1 : Nat), z_1 ≤ c.1 ∧ c.1 - z_1 < c.1 - z ∧ m = m ∧ rE (0 : Nat) ∧ (fiL (agQ c m) z).length + (1 : Nat) = (fiL (agQ c m) z_1).length ∧ c.1 = c.1 ∧ (agsG0 c) ∧ rE (↑c.1 : Int) ∧ (↑z : Int) + (1 : Int) = (↑z_1 : Int) ∧ (fiL (agQ c m)
 z_1).length = (fiL (agQ c m) z).length + (1 : Nat) ∧ (∀ (i : Nat), i < (fiL (agQ c m) z_1).length → rE (1 : Nat) ∧ (if i < (fiL (agQ c m) z).length then (↑((fiL (agQ c m) z).getD i (0 : Nat)) : Int) else (↑z : Int)) = (↑((fiL (agQ c m) z_1).getD i (0 : Nat)) : Int) ∧ True) ∧ True) ∧ (¬inP m (c.su (↑z : Int).toNat) → rI ((↑z : Int) + (1 : Int)) ∧ ∃ (z_1 : Nat), z_1 ≤ c.1 ∧ c.1 - z_1 < c.1 - z ∧ m = m ∧ rE (0 : Nat) ∧ (fiL (agQ c m) z).length = (fiL (agQ c m) z_1).length ∧ c.1 = c.1 ∧ (agsG0 c) ∧ rE (↑c.1 : Int) ∧ (↑z : Int) + (1 : Int) = (↑z_1 : Int) ∧ (fiL (agQ c m) z_1).length = (fiL (agQ c m) z).length ∧ (∀ (i : Nat), i < (fiL (agQ c m) z_1).length → rE (1 : Nat) ∧ (↑((fiL (agQ c m) z).getD i (0 : Nat)) : Int) = (↑((fiL (agQ c m) z_1).getD i (0 : Nat)) : Int) ∧ True) ∧ True))) ∧ (¬(↑z : Int) < (↑c.1 : Int) → (fiL (agQ c m) z).length = (fiL (agQ c m) c.n).length ∧ (0 : Nat) + (fiL (agQ
 c m) c.n).length ≤ (fiL (agQ c m) z).length ∧ (∀ (i : Nat), i < (fiL (agQ c m) c.n).length → rE (1 : Nat) ∧ rE (1 : Nat) ∧ (↑((fiL (agQ c m) z).getD (i + (0 : Nat)) (0 : Nat)) : Int) = (↑((fiL (agQ c m) c.n).getD i (0 : Nat)) : Int) ∧ True) ∧ True)) := by kernel_rfl
def ragG0 (cl : Dl) : Prop := (∀ (i : Nat), i < cl.1 → rE ((SV.agg [SV.dec (cl.g i).p (cl.g i).i, i6 (cl.su i), i6 (cl.ca i)]).den) ∧ True ∧ True ∧ True ∧ True)
def ragG1 (ho : Dl) : Prop := (∀ (i : Nat), i < ho.1 → rE ((SV.agg [SV.dec (ho.g i).p (ho.g i).i, i6 (ho.su i), i6 (ho.ca i)]).den) ∧ True ∧ True ∧ True ∧ True)
theorem ragG_vc (ma : Int) (wr : Int) (cl : Dl) (ho : Dl) (m : Int) : ragG ma wr cl ho m = ((0 : Nat) < (1 : Nat) ∧ (∀ (i : Nat), i < cl.1 → True ∧ True ∧ True ∧ True) ∧ (∀ (i : Nat), i < ho.1 → True ∧ True ∧ True ∧ True) ∧ (SV.lst (3 : Nat) cl.n fun (k : Nat) => SV.agg [SV.dec (cl.g k).p (cl.g k).i, i6 (cl.su k), i6 (cl.ca k)]) = (dlOf cl.n fun (k : Nat) => SV.agg [SV.dec (cl.g k).p (cl.g k).i, i6 (cl.su k), i6 (cl.ca k)]).sv ∧ (SV.lst (3 : Nat) ho.n fun (k : Nat) => SV.agg [SV.dec (ho.g k).p (ho.g k).i, i6 (ho.su k), i6 (ho.ca k)]) = (dlOf ho.n fun (k : Nat) => SV.agg [SV.dec (ho.g k).p (ho.g k).i, i6 (ho.su k), i6 (ho.ca k)]).sv ∧ (¬okSR ma wr (dlOf cl.n fun (k : Nat) => SV.agg [SV.dec (cl.g k).p (cl.g k).i, i6 (cl.su k), i6 (cl.ca k)]) (dlOf ho.n fun (k : Nat) => SV.agg [SV.dec (ho.g k).p (ho.g k).i, i6 (ho.su k), i6 (ho.ca k)]) → (0 : Nat) = (agX ma wr cl ho m).length ∧ (1 : Int) = agE ma wr cl ho m ∧ True) ∧ (¬¬okSR ma wr (dlOf cl.n fun (k : Nat) => SV.agg [SV.dec (cl.g
 k).p (cl.g k).i, i6 (cl.su k), i6 (cl.ca k)]) (dlOf ho.n fun (k : Nat) => SV.agg [SV.dec (ho.g k).p (ho.g k).i, i6 (ho.su k), i6 (ho.ca k)]) → (0 : Nat) < (1 : Nat) ∧ rI (ma - (1 : Int)) ∧ (¬((0 : Int) ≤ m ∧ m ≤ ma - (1 : Int)) → (0 : Nat) = (agX ma wr cl ho m).length ∧ (2 : Int) = agE ma wr cl ho m ∧ True) ∧ (¬¬((0 : Int) ≤ m ∧ m ≤ ma - (1 : Int)) → (∃ (z : Nat), (z ≤ cl.1 ∧ fiL (spQ cl m) z = []) ∧ m = m ∧ rE (0 : Nat) ∧ rE (0 : Nat) ∧ rE (Value.slice none (0 : Nat) (0 : Nat)) ∧ (0 : Int) = (↑z : Int) ∧ ma = ma ∧ wr = wr ∧ rE cl.1 ∧ (ragG0 cl) ∧ rE ho.1 ∧ (ragG1 ho) ∧ True) ∧ (∀ (z : Nat), z ≤ cl.1 ∧ fiL (spQ cl m) z = [] → (0 : Nat) < (1 : Nat) ∧ ((↑z : Int) < (↑cl.1 : Int) → (0 : Nat) < (1 : Nat) ∧ (0 : Int) ≤ (↑z : Int) ∧ (↑z : Int) < (↑cl.1 : Int) ∧ i64P (cl.su (↑z : Int).toNat) ∧ i64P (cl.ca (↑z : Int).toNat) ∧ ((0 : Int) ≤ m ∧ m ≤ (12 : Int)) ∧ (spP (cl.g (↑z : Int).toNat).p
 (cl.su (↑z : Int).toNat) (cl.ca (↑z : Int).toNat) m → True ∧ (∀ (i : Nat), i < (1 : Nat) → rE true) ∧ (1 : Nat) * (8 : Nat) ≤ (140737488355328 : Nat) ∧ (1 : Nat) ≤ (4611686018427387904 : Nat) ∧ rI ((↑z : Int) + (1 : Int)) ∧ ∃ (z_1 : Nat), z_1 ≤ cl.1 ∧ cl.1 - z_1 < cl.1 - z ∧ m = m ∧ rE (0 : Nat) ∧ rE (0 : Nat) ∧ rE (0 : Nat) ∧ (1 : Nat) = (fiL (spQ cl m) z_1).length ∧ (↑z : Int) + (1 : Int) = (↑z_1 : Int) ∧ ma = ma ∧ wr = wr ∧ rE cl.1 ∧ (ragG0 cl) ∧ rE ho.1 ∧ (ragG1 ho) ∧ (fiL (spQ cl m) z_1).length = (1 : Nat) ∧ (∀ (i : Nat), i < (fiL (spQ cl m) z_1).length → rE (1 : Nat) ∧ (↑z : Int) = (↑((fiL (spQ cl m) z_1).getD i (0 : Nat)) : Int) ∧ True) ∧ True) ∧ (¬spP (cl.g (↑z : Int).toNat).p (cl.su (↑z : Int).toNat) (cl.ca (↑z : Int).toNat) m → rI ((↑z : Int) + (1 : Int)) ∧ ∃ (z_1 : Nat), (z_1 ≤ cl.1 ∧ fiL (spQ cl m) z_1 = []) ∧ cl.1 - z_1 < cl.1 - z ∧ m = m ∧ rE (0 : Nat) ∧ rE (0 : Nat) ∧ rE
 (Value.slice none (0 : Nat) (0 : Nat)) ∧ (↑z : Int) + (1 : Int) = (↑z_1 : Int) ∧ ma = ma ∧ wr = wr ∧ rE cl.1 ∧ (ragG0 cl) ∧ rE ho.1 ∧ (ragG1 ho) ∧ True)) ∧ (¬(↑z : Int) < (↑cl.1 : Int) → (0 : Nat) = (agX ma wr cl ho m).length ∧ (0 : Int) = agE ma wr cl ho m ∧ True)) ∧ ∀ (z : Nat), z ≤ cl.1 → (0 : Nat) < (1 : Nat) ∧ ((↑z : Int) < (↑cl.1 : Int) → (0 : Nat) < (1 : Nat) ∧ (0 : Int) ≤ (↑z : Int) ∧ (↑z : Int) < (↑cl.1 : Int) ∧ i64P (cl.su (↑z : Int).toNat) ∧ i64P (cl.ca (↑z : Int).toNat) ∧ ((0 : Int) ≤ m ∧ m ≤ (12 : Int)) ∧ (spP (cl.g (↑z : Int).toNat).p (cl.su (↑z : Int).toNat) (cl.ca (↑z : Int).toNat) m → True ∧ (∀ (i : Nat), i < (1 : Nat) → rE true) ∧ rE (0 : Nat) ∧ rE ((fiL (spQ cl m) z).length) ∧ (∀ (i : Nat), rE true) ∧ ((fiL (spQ cl m) z).length + (1 : Nat)) * (8 : Nat) ≤ (140737488355328 : Nat) ∧ (fiL (spQ cl m) z).length + (1 : Nat) ≤ (4611686018427387904 : Nat) ∧ rI ((↑z : Int) + (1
 : Int)) ∧ ∃ (z_1 : Nat), z_1 ≤ cl.1 ∧ cl.1 - z_1 < cl.1 - z ∧ m = m ∧ rE (0 : Nat) ∧ rE (0 : Nat) ∧ rE (0 : Nat) ∧ (fiL (spQ cl m) z).length + (1 : Nat) = (fiL (spQ cl m) z_1).length ∧ (↑z : Int) + (1 : Int) = (↑z_1 : Int) ∧ ma = ma ∧ wr = wr ∧ rE cl.1 ∧ (ragG0 cl) ∧ rE ho.1 ∧ (ragG1 ho) ∧ (fiL (spQ cl m) z_1).length = (fiL (spQ cl m) z).length + (1 : Nat) ∧ (∀ (i : Nat), i < (fiL (spQ cl m) z_1).length → rE (1 : Nat) ∧ (if i < (fiL (spQ cl m) z).length then (↑((fiL (spQ cl m) z).getD i (0 : Nat)) : Int) else (↑z : Int)) = (↑((fiL (spQ cl m) z_1).getD i (0 : Nat)) : Int) ∧ True) ∧ True) ∧ (¬spP (cl.g (↑z : Int).toNat).p (cl.su (↑z : Int).toNat) (cl.ca (↑z : Int).toNat) m → rI ((↑z : Int) + (1 : Int)) ∧ ∃ (z_1 : Nat), z_1 ≤ cl.1 ∧ cl.1 - z_1 < cl.1 - z ∧ m = m ∧ rE (0 : Nat) ∧ rE (0 : Nat) ∧ rE (0 : Nat) ∧ (fiL (spQ cl m) z).length = (fiL (spQ cl m) z_1).length ∧ (↑z : Int) + (1 : Int) =
 (↑z_1 : Int) ∧ ma = ma ∧ wr = wr ∧ rE cl.1 ∧ (ragG0 cl) ∧ rE ho.1 ∧ (ragG1 ho) ∧ (fiL (spQ cl m) z_1).length = (fiL (spQ cl m) z).length ∧ (∀ (i : Nat), i < (fiL (spQ cl m) z_1).length → rE (1 : Nat) ∧ (↑((fiL (spQ cl m) z).getD i (0 : Nat)) : Int) = (↑((fiL (spQ cl m) z_1).getD i (0 : Nat)) : Int) ∧ True) ∧ True)) ∧ (¬(↑z : Int) < (↑cl.1 : Int) → (fiL (spQ cl m) z).length = (agX ma wr cl ho m).length ∧ (0 : Nat) + (agX ma wr cl ho m).length ≤ (fiL (spQ cl m) z).length ∧ (∀ (i : Nat), i < (agX ma wr cl ho m).length → rE (1 : Nat) ∧ rE (1 : Nat) ∧ (↑((fiL (spQ cl m) z).getD (i + (0 : Nat)) (0 : Nat)) : Int) = (↑((agX ma wr cl ho m).getD i (0 : Nat)) : Int) ∧ True) ∧ (0 : Int) = agE ma wr cl ho m ∧ True)))) := by kernel_rfl
theorem itsG_vc (n : Nat) (n' : Nat) (f : Nat → Int) (f' : Nat → Int) : itsG n n' f f' = ((¬(↑n : Int) = (↑n' : Int) → (false = true ↔ n = n' ∧ ∀ (i : Nat), i < n → f i = f' i) ∧ True) ∧ (¬¬(↑n : Int) = (↑n' : Int) → (∃ (z : Nat), (z ≤ n ∧ ∀ (i : Nat), i < z → f i = f' i) ∧ n = n ∧ (∀ (i : Nat), i < n → rE ((i6 (f i)).den) ∧ True) ∧ n' = n' ∧ (∀ (i : Nat), i < n' → rE ((i6 (f' i)).den) ∧ True) ∧ (0 : Int) = (↑z : Int) ∧ True) ∧ ∀ (z : Nat), (z ≤ n ∧ ∀ (i : Nat), i < z → f i = f' i) → ((↑z : Int) < (↑n : Int) → (0 : Int) ≤ (↑z : Int) ∧ (↑z : Int) < (↑n : Int) ∧ (0 : Int) ≤ (↑z : Int) ∧ (↑z : Int) < (↑n' : Int) ∧ (¬f (↑z : Int).toNat = f' (↑z : Int).toNat → (false = true ↔ n = n' ∧ ∀ (i : Nat), i < n → f i = f' i) ∧ True) ∧ (¬¬f (↑z : Int).toNat = f' (↑z : Int).toNat → rI ((↑z : Int) + (1 : Int)) ∧ ∃ (z_1 : Nat), (z_1 ≤ n ∧ ∀ (i : Nat), i < z_1 → f i = f' i) ∧ n - z_1 < n - z ∧ n = n ∧ (∀ (i : Nat), i < n → rE ((i6 (f i)).den) ∧ True) ∧ n' = n' ∧ (∀ (i : Nat), i < n' → rE ((i6
 (f' i)).den) ∧ True) ∧ (↑z : Int) + (1 : Int) = (↑z_1 : Int) ∧ True)) ∧ (¬(↑z : Int) < (↑n : Int) → (rE true ↔ n = n' ∧ ∀ (i : Nat), i < n → f i = f' i) ∧ True))) := by kernel_rfl
theorem rspG_vc (ma : Int) (wr : Int) (cl : Dl) (ho : Dl) : rspG ma wr cl ho = ((0 : Nat) < (1 : Nat) ∧ (∀ (i : Nat), i < cl.1 → True ∧ True ∧ True ∧ True) ∧ (∀ (i : Nat), i < ho.1 → True ∧ True ∧ True ∧ True) ∧ (SV.lst (3 : Nat) cl.n fun (k : Nat) => SV.agg [SV.dec (cl.g k).p (cl.g k).i, i6 (cl.su k), i6 (cl.ca k)]) = (dlOf cl.n fun (k : Nat) => SV.agg [SV.dec (cl.g k).p (cl.g k).i, i6 (cl.su k), i6 (cl.ca k)]).sv ∧ (SV.lst (3 : Nat) ho.n fun (k : Nat) => SV.agg [SV.dec (ho.g k).p (ho.g k).i, i6 (ho.su k), i6 (ho.ca k)]) = (dlOf ho.n fun (k : Nat) => SV.agg [SV.dec (ho.g k).p (ho.g k).i, i6 (ho.su k), i6 (ho.ca k)]).sv ∧ (¬okSR ma wr (dlOf cl.n fun (k : Nat) => SV.agg [SV.dec (cl.g k).p (cl.g k).i, i6 (cl.su k), i6 (cl.ca k)]) (dlOf ho.n fun (k : Nat) => SV.agg [SV.dec (ho.g k).p (ho.g k).i, i6 (ho.su k), i6 (ho.ca k)]) → (0 : Int) = suX ma wr cl ho ∧ (1 : Int) = erX ma wr cl ho ∧ True) ∧ (¬¬okSR ma wr (dlOf cl.n fun (k : Nat) => SV.agg [SV.dec (cl.g k).p (cl.g
 k).i, i6 (cl.su k), i6 (cl.ca k)]) (dlOf ho.n fun (k : Nat) => SV.agg [SV.dec (ho.g k).p (ho.g k).i, i6 (ho.su k), i6 (ho.ca k)]) → (0 : Nat) < (1 : Nat) ∧ (0 : Nat) < (1 : Nat) ∧ (∀ (i : Nat), i < cl.1 → True ∧ True ∧ True ∧ True) ∧ (∀ (i : Nat), i < ho.1 → True ∧ True ∧ True ∧ True) ∧ (∀ (i : Nat), i < cl.1 → True ∧ True ∧ True ∧ True) ∧ ((SV.lst (3 : Nat) cl.n fun (k : Nat) => SV.agg [SV.dec (cl.g k).p (cl.g k).i, i6 (cl.su k), i6 (cl.ca k)]) = (dlOf cl.n fun (k : Nat) => SV.agg [SV.dec (cl.g k).p (cl.g k).i, i6 (cl.su k), i6 (cl.ca k)]).sv ∧ (SV.lst (3 : Nat) ho.n fun (k : Nat) => SV.agg [SV.dec (ho.g k).p (ho.g k).i, i6 (ho.su k), i6 (ho.ca k)]) = (dlOf ho.n fun (k : Nat) => SV.agg [SV.dec (ho.g k).p (ho.g k).i, i6 (ho.su k), i6 (ho.ca k)]).sv ∧ (SV.lst (3 : Nat) cl.n fun (k : Nat) => SV.agg [SV.dec (cl.g k).p (cl.g k).i, i6 (cl.su k), i6 (cl.ca k)]) = (dlOf cl.n fun (k : Nat) =>
 SV.agg [SV.dec (cl.g k).p (cl.g k).i, i6 (cl.su k), i6 (cl.ca k)]).sv) ∧ ((1 : Int) ≤ ma ∧ ma ≤ (12 : Int)) ∧ okD (dlOf cl.n fun (k : Nat) => SV.agg [SV.dec (cl.g k).p (cl.g k).i, i6 (cl.su k), i6 (cl.ca k)]) ∧ cl.1 ≤ (40 : Nat) ∧ ((↑(rsN (dlOf cl.n fun (k : Nat) => SV.agg [SV.dec (cl.g k).p (cl.g k).i, i6 (cl.su k), i6 (cl.ca k)]) wr ma.toNat) : Int) = (0 : Int) → (0 : Int) = suX ma wr cl ho ∧ (4 : Int) = erX ma wr cl ho ∧ True) ∧ (¬(↑(rsN (dlOf cl.n fun (k : Nat) => SV.agg [SV.dec (cl.g k).p (cl.g k).i, i6 (cl.su k), i6 (cl.ca k)]) wr ma.toNat) : Int) = (0 : Int) → rsS (dlOf cl.n fun (k : Nat) => SV.agg [SV.dec (cl.g k).p (cl.g k).i, i6 (cl.su k), i6 (cl.ca k)]) wr ma.toNat = suX ma wr cl ho ∧ (0 : Int) = erX ma wr cl ho ∧ True))) := by kernel_rfl
end Go.Proofs.Ytfjfnpknlkonnaa

set_option maxRecDepth 100000
namespace Go.Proofs.Ytfjfnpknlkonnaa
open Go Go.Lg
attribute [local irreducible] funS bodyH
open Classical in
theorem fiL_succ (p : Nat → Prop) (z : Nat) : fiL p (z + 1) = fiL p z ++ (if p z then [z] else []) := by
  unfold fiL
  rw [List.range_succ, List.filter_append]
  congr 1
  by_cases h : p z <;> simp [h]
theorem fil_n {p : Nat → Prop} {z : Nat} (h : ¬ p z) : fiL p (z + 1) = fiL p z := by rw [fiL_succ, if_neg h, List.append_nil]
theorem fil_y {p : Nat → Prop} {z : Nat} (h : p z) : fiL p (z + 1) = fiL p z ++ [z] := by rw [fiL_succ, if_pos h]
theorem fil_len {p : Nat → Prop} {z : Nat} (h : p z) : (fiL p (z + 1)).length = (fiL p z).length + 1 := by rw [fil_y h, List.length_append]; rfl
open Classical in
theorem fil_le (p : Nat → Prop) (k : Nat) : (fiL p k).length ≤ k := by
  have := List.length_filter_le (fun j => decide (p j)) (List.range k)
  rw [List.length_range] at this
  exact this
theorem fil_one {p : Nat → Prop} {z : Nat} (h : p z) (h0 : fiL p z = []) : (fiL p (z + 1)).length = 1 ∧ ∀ i, i < (fiL p (z + 1)).length → (z : Int) = ((fiL p (z + 1)).getD i 0 : Nat) := by
  rw [fil_y h, h0]
  refine ⟨rfl, fun i hi => ?_⟩
  have : i = 0 := by simp at hi; omega
  subst this
  rfl
theorem fil_get {p : Nat → Prop} {z : Nat} (h : p z) : ∀ i, i < (fiL p (z + 1)).length → (if i < (fiL p z).length then ((fiL p z).getD i 0 : Int) else (z : Int)) = ((fiL p (z + 1)).getD i 0 : Nat) := by
  intro i hi
  rw [fil_len h] at hi
  rw [fil_y h]
  by_cases e : i < (fiL p z).length
  · rw [if_pos e]
    simp [List.getD, List.getElem?_append_left e]
  · have : i = (fiL p z).length := by omega
    subst this
    rw [if_neg (Nat.lt_irrefl _)]
    simp [List.getD]
theorem fil_congr {p q : Nat → Prop} : ∀ {k : Nat}, (∀ j, j < k → (p j ↔ q j)) → fiL p k = fiL q k
  | 0, _ => rfl
  | k + 1, h => by
    have ih := fil_congr (p := p) (q := q) (k := k) fun j hj => h j (by omega)
    rw [fiL_succ, fiL_succ, ih]
    by_cases e : p k
    · rw [if_pos e, if_pos ((h k (by omega)).1 e)]
    · rw [if_neg e, if_neg fun hh => e ((h k (by omega)).2 hh)]
theorem agQ_y {c : Dl} {m : Int} {z : Nat} (h : (c.g z).p) : agQ c m z ↔ ¬ inP m (c.ca z) := by
  have : @decide (c.g z).p (c.g z).i = true := @decide_eq_true _ (c.g z).i h
  unfold agQ agP Cs.cl csD
  simp only [this, true_and, not_true_eq_false, false_and, or_false]
theorem agQ_n {c : Dl} {m : Int} {z : Nat} (h : ¬ (c.g z).p) : agQ c m z ↔ inP m (c.su z) := by
  have : @decide (c.g z).p (c.g z).i = false := @decide_eq_false _ (c.g z).i h
  unfold agQ agP Cs.cl csD
  simp [this]
section
variable {p : Nat → Prop} {n z : Nat}
theorem fl_first (hz : z ≤ n ∧ fiL p z = []) (hl : (z : Int) < (n : Int)) (h : p z) : ∃ (z_1 : Nat), z_1 ≤ n ∧ n - z_1 < n - z ∧ (1 : Nat) = (fiL p z_1).length ∧ (z : Int) + (1 : Int) = (z_1 : Int) ∧ (fiL p z_1).length = (1 : Nat) ∧ (∀ (i : Nat), i < (fiL p z_1).length → (z : Int) = (((fiL p z_1).getD i (0 : Nat) : Nat) : Int)) := by
  obtain ⟨o1, o2⟩ := fil_one h hz.2
  exact ⟨z + 1, by omega, by omega, o1.symm, by omega, o1, o2⟩
theorem fl_next (hz : z ≤ n) (hl : (z : Int) < (n : Int)) (h : p z) : ∃ (z_1 : Nat), z_1 ≤ n ∧ n - z_1 < n - z ∧ (fiL p z).length + (1 : Nat) = (fiL p z_1).length ∧ (z : Int) + (1 : Int) = (z_1 : Int) ∧ (fiL p z_1).length = (fiL p z).length + (1 : Nat) ∧ (∀ (i : Nat), i < (fiL p z_1).length → (if i < (fiL p z).length then (((fiL p z).getD i (0 : Nat) : Nat) : Int) else (z : Int)) = (((fiL p z_1).getD i (0 : Nat) : Nat) : Int)) :=
  ⟨z + 1, by omega, by omega, (fil_len h).symm, by omega, fil_len h, fil_get h⟩
theorem fl_same0 (hz : z ≤ n ∧ fiL p z = []) (hl : (z : Int) < (n : Int)) (h : ¬ p z) : ∃ (z_1 : Nat), (z_1 ≤ n ∧ fiL p z_1 = []) ∧ n - z_1 < n - z ∧ (z : Int) + (1 : Int) = (z_1 : Int) :=
  ⟨z + 1, ⟨by omega, by rw [fil_n h, hz.2]⟩, by omega, by omega⟩
theorem fl_same1 (hz : z ≤ n) (hl : (z : Int) < (n : Int)) (h : ¬ p z) : ∃ (z_1 : Nat), z_1 ≤ n ∧ n - z_1 < n - z ∧ (fiL p z).length = (fiL p z_1).length ∧ (z : Int) + (1 : Int) = (z_1 : Int) ∧ (fiL p z_1).length = (fiL p z).length ∧ (∀ (i : Nat), i < (fiL p z_1).length → (((fiL p z).getD i (0 : Nat) : Nat) : Int) = (((fiL p z_1).getD i (0 : Nat) : Nat) : Int)) :=
  ⟨z + 1, by omega, by omega, by rw [fil_n h], by omega, by rw [fil_n h], by rw [fil_n h]; exact fun i hi => rfl⟩
end
theorem ags_true {c : Dl} {m : Int} (hn : c.n ≤ 20) (hm : 0 ≤ m ∧ m ≤ 64) : agsG c m := by
  rw [agsG_vc]
  simp only [agsG0, rI, rE, tt3, tt4, tt5, tt13, tt14, t12, and_true, true_and, Nat.zero_lt_one, and_self, implies_true, Int.toNat_natCast, Nat.zero_add, Nat.add_zero, Nat.one_mul, Classical.not_not]
  have L := fil_le (agQ c m)
  have e0 : c.1 = c.n := rfl
  refine ⟨⟨0, ⟨by omega, rfl⟩, rfl⟩, ⟨fun z hz => ⟨fun hl => ⟨by omega, hl, fun hg => ⟨hm, fun ha => ⟨by omega, by omega, by omega, fl_first hz hl ((agQ_y hg).2 ha)⟩, fun ha => ⟨by omega, fl_same0 hz hl fun h => (agQ_y hg).1 h ha⟩⟩, fun hg => ⟨hm, fun ha => ⟨by omega, by omega, by omega, fl_first hz hl ((agQ_n hg).2 ha)⟩, fun ha => ⟨by omega, fl_same0 hz hl fun h => ha ((agQ_n hg).1 h)⟩⟩⟩, fun hl => ?_⟩, fun z hz => ⟨fun hl => ?_, fun hl => ?_⟩⟩⟩
  · have : z = c.n := by omega
    rw [← this, hz.2]; rfl
  · have := L z
    exact ⟨by omega, hl, fun hg => ⟨hm, fun ha => ⟨by omega, by omega, by omega, fl_next hz hl ((agQ_y hg).2 ha)⟩, fun ha => ⟨by omega, fl_same1 hz hl fun h => (agQ_y hg).1 h ha⟩⟩, fun hg => ⟨hm, fun ha => ⟨by omega, by omega, by omega, fl_next hz hl ((agQ_n hg).2 ha)⟩, fun ha => ⟨by omega, fl_same1 hz hl fun h => ha ((agQ_n hg).1 h)⟩⟩⟩
  · have : z = c.n := by omega
    subst this
    exact ⟨rfl, by omega, fun i hi => rfl⟩
end Go.Proofs.Ytfjfnpknlkonnaa

set_option maxRecDepth 100000
namespace Go.Proofs.Ytfjfnpknlkonnaa
open Go Go.Lg
attribute [local irreducible] funS bodyH
theorem rag_true {ma wr : Int} {cl ho : Dl} {m : Int} (h1 : okD cl) : ragG ma wr cl ho m := by
  rw [ragG_vc]
  simp only [ragG0, ragG1, rI, rE, tt3, tt4, tt5, tt13, tt14, t12, and_true, true_and, Nat.zero_lt_one, and_self, implies_true, Int.toNat_natCast, Nat.zero_add, Nat.add_zero, Nat.one_mul, Classical.not_not, dl_fold, sv_fold]
  have L := fil_le (spQ cl m)
  refine ⟨fun h => ⟨by rw [agX, if_neg fun x => h x.1]; rfl, by rw [agE, if_neg h]⟩, fun hk => ?_⟩
  have b1 := hk.b.hm
  have b2 := hk.b.cn
  refine ⟨by omega, fun h => ⟨by rw [agX, if_neg fun x => h x.2]; rfl, by rw [agE, if_pos hk, if_neg h]⟩, fun hm => ?_⟩
  have eX : agX ma wr cl ho m = fiL (spQ cl m) cl.n := by rw [agX, if_pos ⟨hk, hm⟩]
  have eE : agE ma wr cl ho m = 0 := by rw [agE, if_pos hk, if_pos hm]
  have hm12 : 0 ≤ m ∧ m ≤ 12 := by omega
  simp only [eX, eE, and_true]
  have e0 : cl.1 = cl.n := rfl
  refine ⟨⟨0, ⟨by omega, rfl⟩, rfl⟩, ⟨fun z hz => ⟨fun hl => ⟨by omega, hl, h1.su z, h1.ca z, hm12, fun hs => ⟨by omega, by omega, by omega, fl_first hz hl hs⟩, fun hs => ⟨by omega, fl_same0 hz hl hs⟩⟩, fun hl => ?_⟩, fun z hz => ⟨fun hl => ?_, fun hl => ?_⟩⟩⟩
  · have : z = cl.n := by omega
    rw [← this, hz.2]; rfl
  · have := L z
    exact ⟨by omega, hl, h1.su z, h1.ca z, hm12, fun hs => ⟨by omega, by omega, by omega, fl_next hz hl hs⟩, fun hs => ⟨by omega, fl_same1 hz hl hs⟩⟩
  · have : z = cl.n := by omega
    subst this
    exact ⟨rfl, by omega, fun i hi => rfl⟩
theorem its_true {n n' : Nat} {f f' : Nat → Int} (hn : n ≤ 1000) : itsG n n' f f' := by
  rw [itsG_vc]
  simp only [rI, rE, tt3, tt4, tt5, tt13, tt14, t12, and_true, true_and, and_self, implies_true, Int.toNat_natCast, Classical.not_not, Bool.false_eq_true, false_iff, true_iff]
  refine ⟨fun h h2 => h (by rw [h2.1]), fun hn' => ⟨⟨0, ⟨by omega, fun i hi => by omega⟩, rfl⟩, fun z hz => ⟨fun hl => ⟨by omega, hl, by omega, by omega, fun h h2 => h (h2.2 z (by omega)), fun h => ⟨by omega, z + 1, ⟨by omega, fun i hi => ?_⟩, by omega, by omega⟩⟩, fun hl => ?_⟩⟩⟩
  · by_cases e : i < z
    · exact hz.2 i e
    · have : i = z := by omega
      subst this; exact h
  · exact ⟨by omega, fun i hi => hz.2 i (by omega)⟩
theorem rsp_true {ma wr : Int} {cl ho : Dl} (h1 : okD cl) (h2 : okD ho) : rspG ma wr cl ho := by
  rw [rspG_vc]
  simp only [rI, rE, tt3, tt4, tt5, tt13, tt14, t12, and_true, true_and, Nat.zero_lt_one, and_self, implies_true, Classical.not_not, dl_fold, sv_fold]
  have e := okS_R (ma := ma) (wr := wr) h1 h2
  refine ⟨fun h => ⟨by rw [suX, if_neg fun x => h (e.1 x)], by rw [erX, if_neg fun x => h (e.1 x)]⟩, fun hk => ⟨hk.b.hm, h1, by have := hk.b.cn; show cl.n ≤ 40; omega, ?_⟩⟩
  have es : suS ma wr (csD cl) = rsS cl wr ma.toNat := suS_rs hk.b.hm (okB_of hk.b.hm hk.hc)
  have ez := rs_zero cl wr ma.toNat
  have e1 : suX ma wr cl ho = rsS cl wr ma.toNat := by rw [suX, if_pos (e.2 hk), es]
  rw [e1, erX, if_pos (e.2 hk), es]
  refine ⟨fun h => ?_, fun h => ⟨rfl, ?_⟩⟩
  · have : rsS cl wr ma.toNat = 0 := ez.2 (by omega)
    exact ⟨this.symm, by rw [if_pos this]⟩
  · have : ¬ rsS cl wr ma.toNat = 0 := fun h0 => h (by have := ez.1 h0; omega)
    rw [if_neg this]
theorem csA_ok : SoundS Try.prog csA := ctrsF_sound (ctrs_sound (by
  intro x hx
  simp at hx
  rcases hx with rfl | rfl
  · exact ag1_ok
  · exact ag2_ok)) (by intro x hx; simp at hx; subst hx; exact fo_ok)
noncomputable def agsC : Ctr := ⟨37, fun args k => match args with
  | [.lst 3 n f, .int .i64 m] => SV.lst 3 n f = (dlOf n f).sv ∧ n ≤ 20 ∧ (0 ≤ m ∧ m ≤ 64) ∧ k (lstI (fiL (agQ (dlOf n f) m) n))
  | _ => False⟩
theorem ags_ok : agsC.OkF Try.prog := by
  refine ⟨by kernel_rfl, fun x k hk => ?_⟩
  simp only [agsC] at hk
  split at hk
  · rename_i n f m
    obtain ⟨hf, hn, hm, hk⟩ := hk
    have hh := ags_true (c := dlOf n f) hn hm
    unfold agsG at hh
    rw [← hf] at hh
    exact ⟨_, funH_does csA_ok nilS_x nilS_ic mixed hh, hk⟩
  · exact hk.elim
noncomputable def csP : CSpec := ctrsF [agsC] (ctrs [vsC, ifC])
noncomputable def pagG (ma wr : Int) (cl ho : Dl) (m : Int) : Prop := funH Try.prog csP noX (ictrs []) noL noL 15 [sqV ma wr cl ho, i6 m] (.tup [lstI (agX ma wr cl ho m), i6 (agE ma wr cl ho m)])
theorem vs_cs1 : SoundS Try.prog (ctrs [seC, rsC]) := ctrs_sound (by
  intro x hx
  simp at hx
  rcases hx with rfl | rfl
  · exact se_ok
  · exact rs_ok)
theorem rsp_does {ma wr : Int} {cl ho : Dl} (h1 : okD cl) (h2 : okD ho) : Does Try.prog 14 true (SV.denL [sqV ma wr cl ho]) (SV.tup [i6 (suX ma wr cl ho), i6 (erX ma wr cl ho)]).den := by
  have hh := rsp_true (ma := ma) (wr := wr) h1 h2
  unfold rspG at hh
  exact Does.plain (funH_does vs_cs1 nilS_x nilS_ic mixed hh) ⟨trivial, trivial, trivial⟩
theorem vs_cs2 : SoundS Try.prog (ctrs [seC, inC, spC]) := ctrs_sound (by
  intro x hx
  simp at hx
  rcases hx with rfl | rfl | rfl
  · exact se_ok
  · exact in_ok
  · exact sp_ok)
theorem rag_does {ma wr : Int} {cl ho : Dl} {m : Int} (h1 : okD cl) : Does Try.prog 16 false (SV.denL [sqV ma wr cl ho, i6 m]) (SV.tup [lstI (agX ma wr cl ho m), i6 (agE ma wr cl ho m)]).den := by
  have hh := rag_true (ma := ma) (wr := wr) (ho := ho) (m := m) h1
  unfold ragG at hh
  exact funH_does vs_cs2 nilS_x nilS_ic mixed hh
theorem its_does {n n' : Nat} {f f' : Nat → Int} (hn : n ≤ 1000) : Does Try.prog 19 true (SV.denL [li n f, li n' f']) (SV.dec (n = n' ∧ ∀ i, i < n → f i = f' i) (Classical.propDecidable _)).den := by
  have hh := its_true (n' := n') (f := f) (f' := f') hn
  unfold itsG at hh
  exact Does.plain (funH_does nilS_cs nilS_x nilS_ic mixed hh) trivial
end Go.Proofs.Ytfjfnpknlkonnaa

set_option maxRecDepth 100000
namespace Go.Proofs.Ytfjfnpknlkonnaa
open Go Go.Lg
attribute [local irreducible] bodyH
def leI (f : Nat → Int) : Nat → Nat
  | 0 => 0
  | k + 1 => if k = 0 ∨ f k < f (leI f k) then k else leI f k
noncomputable def leG (n : Nat) (f : Nat → Int) : Prop := funH Try.prog (ctrs []) noX (ictrs []) (oneL 0 (natH (fun z => z ≤ n) (fun z => n - z) 0
  (fun z => mkF 25 [(2, i6 (leI f z)), (3, i6 (if z = 0 then 0 else f (leI f z))), (6, li n f), (7, i6 n), (8, i6 z)]) (fun _ => mkX []) fun _ => none)) noL 52 [li n f] (.tup [i6 (leI f n), i6 (if n = 0 then 0 else f (leI f n))])
def leC : Ctr := ⟨52, fun args k => match args with
  | [.lst 1 n f] => SV.lst 1 n f = li n (fun i => prI (f i)) ∧ n ≤ 1000 ∧ k (.tup [i6 (leI (fun i => prI (f i)) n), i6 (if n = 0 then 0 else prI (f (leI (fun i => prI (f i)) n)))])
  | _ => False⟩
noncomputable def wtC (t : Nat → Int) (b : Bool) (su ca : Int) : Nat → Int := wt t ⟨b, su, ca⟩ 12
noncomputable def lef (ma wr : Int) (t : Nat → Int) (b : Bool) (h : Cs) (k : Nat) : Nat := (susL (wtC t b (h.su k) (h.ca k)) wr ma.toNat).length
noncomputable def most (ma wr : Int) (t : Nat → Int) (h : Cs) (k : Nat) : Int := max (max 0 (lef ma wr t true h k : Int)) (lef ma wr t false h k : Int)
noncomputable def cntC : Ctr := ⟨51, fun args k => match args with
  | [.agg [.int .i64 ma, .int .i64 wr, .int .i64 f0, .int .i64 f1, .int .i64 f2, .int .i64 f3, .int .i64 f4, .int .i64 f5, .int .i64 f6, .int .i64 f7, .int .i64 f8, .int .i64 f9, .int .i64 f10, .int .i64 f11, .lst 2 n f], .agg [.int .i64 a0, .int .i64 a1, .int .i64 a2, .int .i64 a3, .int .i64 a4, .int .i64 a5, .int .i64 a6, .int .i64 a7, .int .i64 a8, .int .i64 a9, .int .i64 a10, .int .i64 a11]] =>
    (1 ≤ ma ∧ ma ≤ 12) ∧ SV.lst 2 n f = hoV (hoOf n f) ∧ k (i6 (susL (f12 a0 a1 a2 a3 a4 a5 a6 a7 a8 a9 a10 a11) wr ma.toNat).length)
  | _ => False⟩
noncomputable def csX : CSpec := ctrsF [withC, cntC] (ctrs [leC])
theorem rd2 {n s1 s2 : Nat} (t : FS) (X : XS) (k : Nat × Nat → Prop) (h : (match sget n t s1, sget n t s2 with
    | .int _ a, .int _ b => k (a.toNat, b.toNat)
    | _, _ => False)) : ∃ s, k s := by
  split at h
  · exact ⟨_, h⟩
  · exact h.elim
noncomputable def twH (n s1 s2 nr : Nat) (inv : Nat × Nat → Prop) (μ : Nat × Nat → Nat) (t : Nat × Nat → FS) (X : Nat × Nat → XS) : HSpec :=
  { toLSpec := { σ := Nat × Nat, inv := inv, μ := μ, nr := nr, ms := fun _ _ => [], t := t, X := X, rd := fun t X k => (match sget n t s1, sget n t s2 with
    | .int _ a, .int _ b => k (a.toNat, b.toNat)
    | _, _ => False), rdOK := rd2 }, par := some ⟨fun t _ k => match sget n t s1 with
    | .int _ a => k a.toNat
    | _ => False, rdI⟩, kinv := fun y s => s.1 = y }
noncomputable def mst (ma wr : Int) (t : Nat → Int) (h : Cs) (i z k : Nat) : Int :=
  if k < i then most ma wr t h k else if k = i then (if z = 0 then 0 else if z = 1 then max 0 (lef ma wr t true h i : Int) else most ma wr t h i) else 0
noncomputable def nxtG (ma wr : Int) (t : Nat → Int) (h : Cs) : Prop := funH Try.prog csX noX (ictrs [])
  (twoL 0 (natH (fun z => z ≤ h.n) (fun z => h.n - z) 2 (fun z => mkF 45 [(1, .ptr 0 0 0), (4, .sl 1 0 h.n), (14, hoV h), (15, i6 h.n), (16, i6 z)]) (fun z => mkX [vr 15 (iqW ma wr t (hoV h)), rw' 1 h.n fun k => i6 (mst ma wr t h z 0 k)]) fun _ => none) <|
   oneL 2 (twH 45 16 22 2 (fun s => s.1 < h.n ∧ s.2 ≤ 2) (fun s => 2 - s.2) (fun s => mkF 45 [(1, .ptr 0 0 0), (4, .sl 1 0 h.n), (5, i6 s.1), (14, hoV h), (15, i6 h.n), (16, i6 s.1), (21, hole2 (h.su s.1) (h.ca s.1)), (22, i6 s.2)])
     (fun s => mkX [vr 15 (iqW ma wr t (hoV h)), rw' 1 h.n fun k => i6 (mst ma wr t h s.1 s.2 k)]))) noL 40 [iqW ma wr t (hoV h)] (.tup [i6 (leI (most ma wr t h) h.n), i6 (if h.n = 0 then 0 else most ma wr t h (leI (most ma wr t h) h.n))])
end Go.Proofs.Ytfjfnpknlkonnaa

set_option maxRecDepth 100000
namespace Go.Proofs.Ytfjfnpknlkonnaa
open Go Go.Lg
theorem leG_vc (n : Nat) (f : Nat → Int) : leG n f = ((∃ (z : Nat), z ≤ n ∧ (0 : Int) = (↑(leI f z) : Int) ∧ ((0 : Int) = if z = (0 : Nat) then (0 : Int) else f (leI f z)) ∧ n = n ∧ (∀ (i : Nat), i < n → rE ((i6 (f i)).den) ∧ True) ∧ rE (↑n : Int) ∧ (0 : Int) = (↑z : Int) ∧ True) ∧ ∀ (z : Nat), z ≤ n → ((↑z : Int) < (↑n : Int) → (0 : Int) ≤ (↑z : Int) ∧ (↑z : Int) < (↑n : Int) ∧ ((↑z : Int) = (0 : Int) → rI ((↑z : Int) + (1 : Int)) ∧ ∃ (z_1 : Nat), z_1 ≤ n ∧ n - z_1 < n - z ∧ (↑z : Int) = (↑(leI f z_1) : Int) ∧ (f (↑z : Int).toNat = if z_1 = (0 : Nat) then (0 : Int) else f (leI f z_1)) ∧ n = n ∧ (∀ (i : Nat), i < n → rE ((i6 (f i)).den) ∧ True) ∧ rE (↑n : Int) ∧ (↑z : Int) + (1 : Int) = (↑z_1 : Int) ∧ True) ∧ (¬(↑z : Int) = (0 : Int) → ((f (↑z : Int).toNat < if z = (0 : Nat) then (0 : Int) else f (leI f z)) → rI ((↑z : Int) + (1 : Int)) ∧ ∃ (z_1 : Nat), z_1 ≤ n ∧ n - z_1 < n - z ∧ (↑z : Int) = (↑(leI f z_1) : Int) ∧ (f (↑z : Int).toNat =
 if z_1 = (0 : Nat) then (0 : Int) else f (leI f z_1)) ∧ n = n ∧ (∀ (i : Nat), i < n → rE ((i6 (f i)).den) ∧ True) ∧ rE (↑n : Int) ∧ (↑z : Int) + (1 : Int) = (↑z_1 : Int) ∧ True) ∧ ((¬f (↑z : Int).toNat < if z = (0 : Nat) then (0 : Int) else f (leI f z)) → rI ((↑z : Int) + (1 : Int)) ∧ ∃ (z_1 : Nat), z_1 ≤ n ∧ n - z_1 < n - z ∧ (↑(leI f z) : Int) = (↑(leI f z_1) : Int) ∧ ((if z = (0 : Nat) then (0 : Int) else f (leI f z)) = if z_1 = (0 : Nat) then (0 : Int) else f (leI f z_1)) ∧ n = n ∧ (∀ (i : Nat), i < n → rE ((i6 (f i)).den) ∧ True) ∧ rE (↑n : Int) ∧ (↑z : Int) + (1 : Int) = (↑z_1 : Int) ∧ True))) ∧ (¬(↑z : Int) < (↑n : Int) → (↑(leI f z) : Int) = (↑(leI f n) : Int) ∧ ((if z = (0 : Nat) then (0 : Int) else f (leI f z)) = if n = (0 : Nat) then (0 : Int) else f (leI f n)) ∧ True)) := by kernel_rfl
def nxtG0 (h : Cs) : Prop := (∀ (i : Nat), i < h.1 → rE ((SV.agg [SV.clo (Fn.func (57 : FuncId)) [] [SV.ipt [SV.bool true, i6 (h.su i), i6 (h.ca i)]], SV.clo (Fn.func (58 : FuncId)) [] [SV.ipt [SV.bool false, i6 (h.su i), i6 (h.ca i)]]]).den) ∧ (True ∧ (tt4) ∧ True) ∧ (True ∧ (tt4) ∧ True) ∧ True)
theorem nxtG_vc (ma : Int) (wr : Int) (t : Nat → Int) (h : Cs) : nxtG ma wr t h = ((0 : Nat) < (1 : Nat) ∧ (0 : Int) ≤ (↑h.1 : Int) ∧ (↑h.1 : Int) ≤ (↑h.1 : Int) ∧ (↑h.1 : Int) ≤ (1048576 : Int) ∧ (↑h.1 : Int) * (↑(8 : Nat) : Int) ≤ (140737488355328 : Int) ∧ (0 : Nat) < (1 : Nat) ∧ (∃ (z : Nat), z ≤ h.1 ∧ rE (0 : Nat) ∧ rE (0 : Nat) ∧ rE (0 : Nat) ∧ (↑h.1 : Int).toNat = h.1 ∧ h.1 = h.1 ∧ (nxtG0 h) ∧ rE (↑h.1 : Int) ∧ (0 : Int) = (↑z : Int) ∧ ma = ma ∧ wr = wr ∧ rE (t (0 : Nat)) ∧ rE (t (1 : Nat)) ∧ rE (t (2 : Nat)) ∧ rE (t (3 : Nat)) ∧ rE (t (4 : Nat)) ∧ rE (t (5 : Nat)) ∧ rE (t (6 : Nat)) ∧ rE (t (7 : Nat)) ∧ rE (t (8 : Nat)) ∧ rE (t (9 : Nat)) ∧ rE (t (10 : Nat)) ∧ rE (t (11 : Nat)) ∧ h.1 = h.1 ∧ (nxtG0 h) ∧ h.1 = (↑h.1 : Int).toNat ∧ (∀ (i : Nat), i < h.1 → rE (1 : Nat) ∧ (0 : Int) = mst ma wr t h z (0 : Nat) i ∧ True) ∧ True) ∧ ∀ (z : Nat), z ≤ h.1 → ((↑z : Int) < (↑h.1 : Int) → (0 : Int) ≤ (↑z : Int) ∧ (↑z : Int) < (↑h.1 : Int) ∧ (0 : Nat) < (1 : Nat) ∧ (((z <
 h.1 ∧ (0 : Nat) ≤ (2 : Nat)) ∧ z = (↑z : Int).toNat) ∧ rE (0 : Nat) ∧ rE (0 : Nat) ∧ rE (0 : Nat) ∧ h.1 = h.1 ∧ rE (↑z : Int) ∧ h.1 = h.1 ∧ (nxtG0 h) ∧ rE (↑h.1 : Int) ∧ rE (↑z : Int) ∧ rE (Fn.func (57 : FuncId)) ∧ rE (SV.denL [SV.bool true, i6 (h.su (↑z : Int).toNat), i6 (h.ca (↑z : Int).toNat)]) ∧ (tt4) ∧ rE (Fn.func (58 : FuncId)) ∧ rE (SV.denL [SV.bool false, i6 (h.su (↑z : Int).toNat), i6 (h.ca (↑z : Int).toNat)]) ∧ (tt4) ∧ (0 : Int) = (↑(0 : Nat) : Int) ∧ ma = ma ∧ wr = wr ∧ rE (t (0 : Nat)) ∧ rE (t (1 : Nat)) ∧ rE (t (2 : Nat)) ∧ rE (t (3 : Nat)) ∧ rE (t (4 : Nat)) ∧ rE (t (5 : Nat)) ∧ rE (t (6 : Nat)) ∧ rE (t (7 : Nat)) ∧ rE (t (8 : Nat)) ∧ rE (t (9 : Nat)) ∧ rE (t (10 : Nat)) ∧ rE (t (11 : Nat)) ∧ h.1 = h.1 ∧ (nxtG0 h) ∧ h.1 = h.1 ∧ (∀ (i : Nat), i < h.1 → rE (1 : Nat) ∧ rE (mst ma wr t h z (0 : Nat) i) ∧ True) ∧ True) ∧ ∀ (z_1 : Nat × Nat), (z_1.1 < h.1 ∧ z_1.2 ≤ (2 : Nat)) ∧
 z_1.1 = (↑z : Int).toNat → ((↑z_1.2 : Int) < (2 : Int) → (0 : Int) ≤ (↑z_1.2 : Int) ∧ (↑z_1.2 : Int) < (↑(2 : Nat) : Int) ∧ (↑z_1.2 : Int).toNat * (1 : Nat) < (2 : Nat) ∧ (True ∧ ((↑z_1.2 : Int).toNat * (1 : Nat) = (0 : Nat) → (0 : Int) ≤ (↑z_1.1 : Int) ∧ (↑z_1.1 : Int) < (↑h.1 : Int) ∧ (0 : Nat) + (↑z_1.1 : Int).toNat < h.1 ∧ (0 : Nat) < (1 : Nat) ∧ (0 : Nat) < (1 : Nat) ∧ (0 : Nat) < (1 : Nat) ∧ okT (t12 (t)) ∧ rE (57 : FuncId) ∧ (∀ (i : Nat), i < h.1 → (True ∧ (tt4) ∧ True) ∧ (True ∧ (tt4) ∧ True) ∧ True) ∧ ((1 : Int) ≤ ma ∧ ma ≤ (12 : Int)) ∧ (SV.lst (2 : Nat) h.n fun (k : Nat) => SV.agg [SV.clo (Fn.func (57 : FuncId)) [] [SV.ipt [SV.bool true, i6 (h.su k), i6 (h.ca k)]], SV.clo (Fn.func (58 : FuncId)) [] [SV.ipt [SV.bool false, i6 (h.su k), i6 (h.ca k)]]]) = hoV (hoOf h.n fun (k : Nat) => SV.agg [SV.clo (Fn.func (57 : FuncId)) [] [SV.ipt [SV.bool true, i6 (h.su k), i6 (h.ca k)]],
 SV.clo (Fn.func (58 : FuncId)) [] [SV.ipt [SV.bool false, i6 (h.su k), i6 (h.ca k)]]]) ∧ (0 : Int) ≤ (↑z_1.1 : Int) ∧ (↑z_1.1 : Int) < (↑h.1 : Int) ∧ (0 : Nat) + (1 : Nat) ≤ (1 : Nat) ∧ (0 : Nat) + (↑z_1.1 : Int).toNat < h.1 ∧ (∀ (i' : Nat), rE true) ∧ rI ((↑z_1.2 : Int) + (1 : Int)) ∧ (((↑z_1.1 : Int).toNat < h.1 ∧ ((↑z_1.2 : Int) + (1 : Int)).toNat ≤ (2 : Nat)) ∧ (↑z_1.1 : Int).toNat = (↑z : Int).toNat) ∧ (2 : Nat) - ((↑z_1.2 : Int) + (1 : Int)).toNat < (2 : Nat) - z_1.2 ∧ rE (0 : Nat) ∧ rE (0 : Nat) ∧ rE (0 : Nat) ∧ h.1 = h.1 ∧ (↑z_1.1 : Int) = (↑(↑z_1.1 : Int).toNat : Int) ∧ h.1 = h.1 ∧ (nxtG0 h) ∧ rE (↑h.1 : Int) ∧ (↑z_1.1 : Int) = (↑(↑z_1.1 : Int).toNat : Int) ∧ rE (Fn.func (57 : FuncId)) ∧ SV.denL [SV.bool true, i6 (h.su z_1.fst), i6 (h.ca z_1.fst)] = SV.denL [SV.bool true, i6 (h.su (↑z_1.fst : Int).toNat), i6 (h.ca (↑z_1.fst : Int).toNat)] ∧ (tt4) ∧ rE (Fn.func (58 : FuncId)) ∧
 SV.denL [SV.bool false, i6 (h.su z_1.fst), i6 (h.ca z_1.fst)] = SV.denL [SV.bool false, i6 (h.su (↑z_1.fst : Int).toNat), i6 (h.ca (↑z_1.fst : Int).toNat)] ∧ (tt4) ∧ (↑z_1.2 : Int) + (1 : Int) = (↑((↑z_1.2 : Int) + (1 : Int)).toNat : Int) ∧ ma = ma ∧ wr = wr ∧ rE (t (0 : Nat)) ∧ rE (t (1 : Nat)) ∧ rE (t (2 : Nat)) ∧ rE (t (3 : Nat)) ∧ rE (t (4 : Nat)) ∧ rE (t (5 : Nat)) ∧ rE (t (6 : Nat)) ∧ rE (t (7 : Nat)) ∧ rE (t (8 : Nat)) ∧ rE (t (9 : Nat)) ∧ rE (t (10 : Nat)) ∧ rE (t (11 : Nat)) ∧ h.1 = h.1 ∧ (nxtG0 h) ∧ h.1 = h.1 ∧ (∀ (i : Nat), i < h.1 → rE (1 : Nat) ∧ (if i = (0 : Nat) + (↑z_1.1 : Int).toNat then max (mst ma wr t h z_1.1 z_1.2 ((0 : Nat) + (↑z_1.1 : Int).toNat)) (↑(susL (t12 (wt (t12 (t)) ⟨true, h.su z_1.fst, h.ca z_1.fst⟩ (12 : Nat))) wr ma.toNat).length : Int) else mst ma wr t h z_1.1 z_1.2 i) = mst ma wr t h (↑z_1.1 : Int).toNat ((↑z_1.2 : Int) + (1 :
 Int)).toNat i ∧ True) ∧ True)) ∧ ((↑z_1.2 : Int).toNat * (1 : Nat) = (1 : Nat) → (0 : Int) ≤ (↑z_1.1 : Int) ∧ (↑z_1.1 : Int) < (↑h.1 : Int) ∧ (0 : Nat) + (↑z_1.1 : Int).toNat < h.1 ∧ (0 : Nat) < (1 : Nat) ∧ (0 : Nat) < (1 : Nat) ∧ (0 : Nat) < (1 : Nat) ∧ okT (t12 (t)) ∧ rE (58 : FuncId) ∧ (∀ (i : Nat), i < h.1 → (True ∧ (tt4) ∧ True) ∧ (True ∧ (tt4) ∧ True) ∧ True) ∧ ((1 : Int) ≤ ma ∧ ma ≤ (12 : Int)) ∧ (SV.lst (2 : Nat) h.n fun (k : Nat) => SV.agg [SV.clo (Fn.func (57 : FuncId)) [] [SV.ipt [SV.bool true, i6 (h.su k), i6 (h.ca k)]], SV.clo (Fn.func (58 : FuncId)) [] [SV.ipt [SV.bool false, i6 (h.su k), i6 (h.ca k)]]]) = hoV (hoOf h.n fun (k : Nat) => SV.agg [SV.clo (Fn.func (57 : FuncId)) [] [SV.ipt [SV.bool true, i6 (h.su k), i6 (h.ca k)]], SV.clo (Fn.func (58 : FuncId)) [] [SV.ipt [SV.bool false, i6 (h.su k), i6 (h.ca k)]]]) ∧ (0 : Int) ≤ (↑z_1.1 : Int) ∧ (↑z_1.1 : Int) < (↑h.1 : Int)
 ∧ (0 : Nat) + (1 : Nat) ≤ (1 : Nat) ∧ (0 : Nat) + (↑z_1.1 : Int).toNat < h.1 ∧ (∀ (i' : Nat), rE true) ∧ rI ((↑z_1.2 : Int) + (1 : Int)) ∧ (((↑z_1.1 : Int).toNat < h.1 ∧ ((↑z_1.2 : Int) + (1 : Int)).toNat ≤ (2 : Nat)) ∧ (↑z_1.1 : Int).toNat = (↑z : Int).toNat) ∧ (2 : Nat) - ((↑z_1.2 : Int) + (1 : Int)).toNat < (2 : Nat) - z_1.2 ∧ rE (0 : Nat) ∧ rE (0 : Nat) ∧ rE (0 : Nat) ∧ h.1 = h.1 ∧ (↑z_1.1 : Int) = (↑(↑z_1.1 : Int).toNat : Int) ∧ h.1 = h.1 ∧ (nxtG0 h) ∧ rE (↑h.1 : Int) ∧ (↑z_1.1 : Int) = (↑(↑z_1.1 : Int).toNat : Int) ∧ rE (Fn.func (57 : FuncId)) ∧ SV.denL [SV.bool true, i6 (h.su z_1.fst), i6 (h.ca z_1.fst)] = SV.denL [SV.bool true, i6 (h.su (↑z_1.fst : Int).toNat), i6 (h.ca (↑z_1.fst : Int).toNat)] ∧ (tt4) ∧ rE (Fn.func (58 : FuncId)) ∧ SV.denL [SV.bool false, i6 (h.su z_1.fst), i6 (h.ca z_1.fst)] = SV.denL [SV.bool false, i6 (h.su (↑z_1.fst : Int).toNat), i6 (h.ca (↑z_1.fst :
 Int).toNat)] ∧ (tt4) ∧ (↑z_1.2 : Int) + (1 : Int) = (↑((↑z_1.2 : Int) + (1 : Int)).toNat : Int) ∧ ma = ma ∧ wr = wr ∧ rE (t (0 : Nat)) ∧ rE (t (1 : Nat)) ∧ rE (t (2 : Nat)) ∧ rE (t (3 : Nat)) ∧ rE (t (4 : Nat)) ∧ rE (t (5 : Nat)) ∧ rE (t (6 : Nat)) ∧ rE (t (7 : Nat)) ∧ rE (t (8 : Nat)) ∧ rE (t (9 : Nat)) ∧ rE (t (10 : Nat)) ∧ rE (t (11 : Nat)) ∧ h.1 = h.1 ∧ (nxtG0 h) ∧ h.1 = h.1 ∧ (∀ (i : Nat), i < h.1 → rE (1 : Nat) ∧ (if i = (0 : Nat) + (↑z_1.1 : Int).toNat then max (mst ma wr t h z_1.1 z_1.2 ((0 : Nat) + (↑z_1.1 : Int).toNat)) (↑(susL (t12 (wt (t12 (t)) ⟨false, h.su z_1.fst, h.ca z_1.fst⟩ (12 : Nat))) wr ma.toNat).length : Int) else mst ma wr t h z_1.1 z_1.2 i) = mst ma wr t h (↑z_1.1 : Int).toNat ((↑z_1.2 : Int) + (1 : Int)).toNat i ∧ True) ∧ True)) ∧ (¬(↑z_1.2 : Int) < (2 : Int) → rI ((↑z_1.1 : Int) + (1 : Int)) ∧ ∃ (z_2 : Nat), z_2 ≤ h.1 ∧ h.1 - z_2 < h.1 - z ∧
 rE (0 : Nat) ∧ rE (0 : Nat) ∧ rE (0 : Nat) ∧ h.1 = h.1 ∧ h.1 = h.1 ∧ (nxtG0 h) ∧ rE (↑h.1 : Int) ∧ (↑z_1.1 : Int) + (1 : Int) = (↑z_2 : Int) ∧ ma = ma ∧ wr = wr ∧ rE (t (0 : Nat)) ∧ rE (t (1 : Nat)) ∧ rE (t (2 : Nat)) ∧ rE (t (3 : Nat)) ∧ rE (t (4 : Nat)) ∧ rE (t (5 : Nat)) ∧ rE (t (6 : Nat)) ∧ rE (t (7 : Nat)) ∧ rE (t (8 : Nat)) ∧ rE (t (9 : Nat)) ∧ rE (t (10 : Nat)) ∧ rE (t (11 : Nat)) ∧ h.1 = h.1 ∧ (nxtG0 h) ∧ h.1 = h.1 ∧ (∀ (i : Nat), i < h.1 → rE (1 : Nat) ∧ mst ma wr t h z_1.1 z_1.2 i = mst ma wr t h z_2 (0 : Nat) i ∧ True) ∧ True)) ∧ (¬(↑z : Int) < (↑h.1 : Int) → (0 : Nat) + h.1 ≤ h.1 ∧ (∀ (i : Nat), i < h.1 → rE (1 : Nat) ∧ True) ∧ ((SV.lst (1 : Nat) h.n fun (i : Nat) => i6 (mst ma wr t h z (0 : Nat) (i + (0 : Nat)))) = li h.n fun (i : Nat) => prI (i6 (mst ma wr t h z (0 : Nat) (i + (0 : Nat))))) ∧ h.1 ≤ (1000 : Nat) ∧ (↑(leI (fun (i : Nat) => prI (i6 (mst ma wr t h z (0 : Nat)
 (i + (0 : Nat))))) h.1) : Int) = (↑(leI (most ma wr t h) h.1) : Int) ∧ ((if h.1 = (0 : Nat) then (0 : Int) else mst ma wr t h z (0 : Nat) (leI (fun (i : Nat) => prI (i6 (mst ma wr t h z (0 : Nat) (i + (0 : Nat))))) h.1 + (0 : Nat))) = if h.1 = (0 : Nat) then (0 : Int) else most ma wr t h (leI (most ma wr t h) h.1)) ∧ True)) := by kernel_rfl
theorem pagG_vc (ma : Int) (wr : Int) (cl : Dl) (ho : Dl) (m : Int) : pagG ma wr cl ho m = ((0 : Nat) < (1 : Nat) ∧ (∀ (i : Nat), i < cl.1 → True ∧ True ∧ True ∧ True) ∧ (∀ (i : Nat), i < ho.1 → True ∧ True ∧ True ∧ True) ∧ (SV.lst (3 : Nat) cl.n fun (k : Nat) => SV.agg [SV.dec (cl.g k).p (cl.g k).i, i6 (cl.su k), i6 (cl.ca k)]) = (dlOf cl.n fun (k : Nat) => SV.agg [SV.dec (cl.g k).p (cl.g k).i, i6 (cl.su k), i6 (cl.ca k)]).sv ∧ (SV.lst (3 : Nat) ho.n fun (k : Nat) => SV.agg [SV.dec (ho.g k).p (ho.g k).i, i6 (ho.su k), i6 (ho.ca k)]) = (dlOf ho.n fun (k : Nat) => SV.agg [SV.dec (ho.g k).p (ho.g k).i, i6 (ho.su k), i6 (ho.ca k)]).sv ∧ (¬okS ma wr (dlOf cl.n fun (k : Nat) => SV.agg [SV.dec (cl.g k).p (cl.g k).i, i6 (cl.su k), i6 (cl.ca k)]) (dlOf ho.n fun (k : Nat) => SV.agg [SV.dec (ho.g k).p (ho.g k).i, i6 (ho.su k), i6 (ho.ca k)]) → (0 : Nat) = (agX ma wr cl ho m).length ∧ (1 : Int) = agE ma wr cl ho m ∧ True) ∧ (¬¬okS ma wr (dlOf cl.n fun (k : Nat) => SV.agg [SV.dec (cl.g
 k).p (cl.g k).i, i6 (cl.su k), i6 (cl.ca k)]) (dlOf ho.n fun (k : Nat) => SV.agg [SV.dec (ho.g k).p (ho.g k).i, i6 (ho.su k), i6 (ho.ca k)]) → (0 : Nat) < (1 : Nat) ∧ rI (ma - (1 : Int)) ∧ (¬((0 : Int) ≤ m ∧ m ≤ ma - (1 : Int)) → (0 : Nat) = (agX ma wr cl ho m).length ∧ (2 : Int) = agE ma wr cl ho m ∧ True) ∧ (¬¬((0 : Int) ≤ m ∧ m ≤ ma - (1 : Int)) → (0 : Nat) < (1 : Nat) ∧ (∀ (i : Nat), i < cl.1 → True ∧ True ∧ True ∧ True) ∧ (SV.lst (3 : Nat) cl.n fun (k : Nat) => SV.agg [SV.dec (cl.g k).p (cl.g k).i, i6 (cl.su k), i6 (cl.ca k)]) = (dlOf cl.n fun (k : Nat) => SV.agg [SV.dec (cl.g k).p (cl.g k).i, i6 (cl.su k), i6 (cl.ca k)]).sv ∧ cl.1 ≤ (20 : Nat) ∧ ((0 : Int) ≤ m ∧ m ≤ (64 : Int)) ∧ (fiL (agQ (dlOf cl.n fun (k : Nat) => SV.agg [SV.dec (cl.g k).p (cl.g k).i, i6 (cl.su k), i6 (cl.ca k)]) m) cl.n).length = (agX ma wr cl ho m).length ∧ (∀ (i : Nat), i < (agX ma wr cl ho m).length → (i6
 (↑((fiL (agQ (dlOf cl.n fun (k : Nat) => SV.agg [SV.dec (cl.g k).p (cl.g k).i, i6 (cl.su k), i6 (cl.ca k)]) m) cl.n).getD i (0 : Nat)) : Int)).den = (i6 (↑((agX ma wr cl ho m).getD i (0 : Nat)) : Int)).den ∧ True) ∧ (0 : Int) = agE ma wr cl ho m ∧ True))) := by kernel_rfl
end Go.Proofs.Ytfjfnpknlkonnaa
