import Derived.Test.YtfjfnpknlkonnaaKxKxVKyKzKzVLzaLzb
set_option linter.unusedVariables false
set_option linter.unusedSimpArgs false
set_option maxRecDepth 100000
namespace Go.Proofs.Ytfjfnpknlkonnaa
open Go Go.Lg
attribute [local irreducible] bodyH
open Classical in
noncomputable def fiL (p : Nat → Prop) (k : Nat) : List Nat := (List.range k).filter fun j => decide (p j)
def lstI (l : List Nat) : SV := .lst 1 l.length fun k => i6 (l.getD k 0 : Nat)
noncomputable def agQ (c : Dl) (m : Int) (k : Nat) : Prop := agP ((csD c).cl k) m
noncomputable def spQ (c : Dl) (m : Int) (k : Nat) : Prop := spP (c.g k).p (c.su k) (c.ca k) m
noncomputable def csA : CSpec := ctrsF [foC] (ctrs [agC 57 true, agC 58 false])
noncomputable def agsG (c : Dl) (m : Int) : Prop := funH Try.prog csA noX (ictrs []) (oneL 0 (filH 26 5 (fun z => z ≤ c.n ∧ fiL (agQ c m) z = []) (fun z => z ≤ c.n) (fun z => c.n - z) 0
  (fun z => mkF 26 [(1, i6 m), (5, nilS), (8, c.sv), (9, i6 c.n), (10, i6 z)]) (fun z => mkF 26 [(1, i6 m), (5, .sl 0 0 (fiL (agQ c m) z).length), (8, c.sv), (9, i6 c.n), (10, i6 z)])
  (fun _ => mkX []) (fun z => mkX [rw' 1 (fiL (agQ c m) z).length fun k => i6 ((fiL (agQ c m) z).getD k 0 : Nat)]))) noL 37 [c.sv, i6 m] (lstI (fiL (agQ c m) c.n))
open Classical in
noncomputable def agX (ma wr : Int) (cl ho : Dl) (m : Int) : List Nat := if okSR ma wr cl ho ∧ (0 ≤ m ∧ m ≤ ma - 1) then fiL (spQ cl m) cl.n else []
open Classical in
noncomputable def agE (ma wr : Int) (cl ho : Dl) (m : Int) : Int := if okSR ma wr cl ho then (if 0 ≤ m ∧ m ≤ ma - 1 then 0 else 2) else 1
noncomputable def ragG (ma wr : Int) (cl ho : Dl) (m : Int) : Prop := funH Try.prog (ctrs [seC, inC, spC]) noX (ictrs []) (oneL 0 (filH 36 6 (fun z => z ≤ cl.n ∧ fiL (spQ cl m) z = []) (fun z => z ≤ cl.n) (fun z => cl.n - z) 1
  (fun z => mkF 36 [(1, i6 m), (2, .ptr 0 0 0), (6, nilS), (7, i6 z)]) (fun z => mkF 36 [(1, i6 m), (2, .ptr 0 0 0), (6, .sl 1 0 (fiL (spQ cl m) z).length), (7, i6 z)])
  (fun _ => mkX [vr 4 (sqV ma wr cl ho)]) (fun z => mkX [vr 4 (sqV ma wr cl ho), rw' 1 (fiL (spQ cl m) z).length fun k => i6 ((fiL (spQ cl m) z).getD k 0 : Nat)]))) noL 16 [sqV ma wr cl ho, i6 m] (.tup [lstI (agX ma wr cl ho m), i6 (agE ma wr cl ho m)])
def li (n : Nat) (f : Nat → Int) : SV := .lst 1 n fun k => i6 (f k)
noncomputable def itsG (n n' : Nat) (f f' : Nat → Int) : Prop := funH Try.prog (ctrs []) noX (ictrs []) (oneL 0 (natH (fun z => z ≤ n ∧ ∀ i, i < z → f i = f' i) (fun z => n - z) 0
  (fun z => mkF 26 [(0, li n f), (1, li n' f'), (5, i6 z)]) (fun _ => mkX []) fun _ => none)) noL 19 [li n f, li n' f'] (.dec (n = n' ∧ ∀ i, i < n → f i = f' i) (Classical.propDecidable _))
end Go.Proofs.Ytfjfnpknlkonnaa

set_option maxRecDepth 100000
namespace Go.Proofs.Ytfjfnpknlkonnaa
open Go Go.Lg
def agsG0 (c : Dl) : Prop := (∀ (i : Nat), i < c.1 → rE ((SV.agg [SV.dec (c.g i).p (c.g i).i, i6 (c.su i), i6 (c.ca i)]).den) ∧ True ∧ True ∧ True ∧ True)
def ragG0 (cl : Dl) : Prop := (∀ (i : Nat), i < cl.1 → rE ((SV.agg [SV.dec (cl.g i).p (cl.g i).i, i6 (cl.su i), i6 (cl.ca i)]).den) ∧ True ∧ True ∧ True ∧ True)
def ragG1 (ho : Dl) : Prop := (∀ (i : Nat), i < ho.1 → rE ((SV.agg [SV.dec (ho.g i).p (ho.g i).i, i6 (ho.su i), i6 (ho.ca i)]).den) ∧ True ∧ True ∧ True ∧ True)
end Go.Proofs.Ytfjfnpknlkonnaa

set_option maxRecDepth 100000
namespace Go.Proofs.Ytfjfnpknlkonnaa
open Go Go.Lg
attribute [local irreducible] funS bodyH
section
variable {p : Nat → Prop} {n z : Nat}
end
end Go.Proofs.Ytfjfnpknlkonnaa

set_option maxRecDepth 100000
namespace Go.Proofs.Ytfjfnpknlkonnaa
open Go Go.Lg
attribute [local irreducible] funS bodyH
noncomputable def agsC : Ctr := ⟨37, fun args k => match args with
  | [.lst 3 n f, .int .i64 m] => SV.lst 3 n f = (dlOf n f).sv ∧ n ≤ 20 ∧ (0 ≤ m ∧ m ≤ 64) ∧ k (lstI (fiL (agQ (dlOf n f) m) n))
  | _ => False⟩
noncomputable def csP : CSpec := ctrsF [agsC] (ctrs [vsC, ifC])
noncomputable def pagG (ma wr : Int) (cl ho : Dl) (m : Int) : Prop := funH Try.prog csP noX (ictrs []) noL noL 15 [sqV ma wr cl ho, i6 m] (.tup [lstI (agX ma wr cl ho m), i6 (agE ma wr cl ho m)])
end Go.Proofs.Ytfjfnpknlkonnaa

set_option maxRecDepth 100000
namespace Go.Proofs.Ytfjfnpknlkonnaa
open Go Go.Lg
attribute [local irreducible] bodyH
def leI (f : Nat → Int) : Nat → Nat
  | 0 => 0
  | k + 1 => if k = 0 ∨ f k < f (leI f k) then k else leI f k
noncomputable def leG (n : Nat) (f : Nat → Int) : Prop := funH Try.prog (ctrs []) noX (ictrs []) (oneL 0 (natH (fun z => z ≤ n) (fun z => n - z) 0
  (fun z => mkF 25 [(2, i6 (leI f z)), (3, i6 (if z = 0 then 0 else f (leI f z))), (6, li n f), (7, i6 n), (8, i6 z)]) (fun _ => mkX []) fun _ => none)) noL 52 [li n f] (.tup [i6 (leI f n), i6 (if n = 0 then 0 else f (leI f n))])
def leC : Ctr := ⟨52, fun args k => match args with
  | [.lst 1 n f] => SV.lst 1 n f = li n (fun i => prI (f i)) ∧ n ≤ 1000 ∧ k (.tup [i6 (leI (fun i => prI (f i)) n), i6 (if n = 0 then 0 else prI (f (leI (fun i => prI (f i)) n)))])
  | _ => False⟩
noncomputable def wtC (t : Nat → Int) (b : Bool) (su ca : Int) : Nat → Int := wt t ⟨b, su, ca⟩ 12
noncomputable def lef (ma wr : Int) (t : Nat → Int) (b : Bool) (h : Cs) (k : Nat) : Nat := (susL (wtC t b (h.su k) (h.ca k)) wr ma.toNat).length
noncomputable def most (ma wr : Int) (t : Nat → Int) (h : Cs) (k : Nat) : Int := max (max 0 (lef ma wr t true h k : Int)) (lef ma wr t false h k : Int)
noncomputable def cntC : Ctr := ⟨51, fun args k => match args with
  | [.agg [.int .i64 ma, .int .i64 wr, .int .i64 f0, .int .i64 f1, .int .i64 f2, .int .i64 f3, .int .i64 f4, .int .i64 f5, .int .i64 f6, .int .i64 f7, .int .i64 f8, .int .i64 f9, .int .i64 f10, .int .i64 f11, .lst 2 n f], .agg [.int .i64 a0, .int .i64 a1, .int .i64 a2, .int .i64 a3, .int .i64 a4, .int .i64 a5, .int .i64 a6, .int .i64 a7, .int .i64 a8, .int .i64 a9, .int .i64 a10, .int .i64 a11]] =>
    (1 ≤ ma ∧ ma ≤ 12) ∧ SV.lst 2 n f = hoV (hoOf n f) ∧ k (i6 (susL (f12 a0 a1 a2 a3 a4 a5 a6 a7 a8 a9 a10 a11) wr ma.toNat).length)
  | _ => False⟩
noncomputable def csX : CSpec := ctrsF [withC, cntC] (ctrs [leC])
theorem rd2 {n s1 s2 : Nat} (t : FS) (X : XS) (k : Nat × Nat → Prop) (h : (match sget n t s1, sget n t s2 with
    | .int _ a, .int _ b => k (a.toNat, b.toNat)
    | _, _ => False)) : ∃ s, k s := by
  split at h
  · exact ⟨_, h⟩
  · exact h.elim
noncomputable def twH (n s1 s2 nr : Nat) (inv : Nat × Nat → Prop) (μ : Nat × Nat → Nat) (t : Nat × Nat → FS) (X : Nat × Nat → XS) : HSpec :=
  { toLSpec := { σ := Nat × Nat, inv := inv, μ := μ, nr := nr, ms := fun _ _ => [], t := t, X := X, rd := fun t X k => (match sget n t s1, sget n t s2 with
    | .int _ a, .int _ b => k (a.toNat, b.toNat)
    | _, _ => False), rdOK := rd2 }, par := some ⟨fun t _ k => match sget n t s1 with
    | .int _ a => k a.toNat
    | _ => False, rdI⟩, kinv := fun y s => s.1 = y }
noncomputable def mst (ma wr : Int) (t : Nat → Int) (h : Cs) (i z k : Nat) : Int :=
  if k < i then most ma wr t h k else if k = i then (if z = 0 then 0 else if z = 1 then max 0 (lef ma wr t true h i : Int) else most ma wr t h i) else 0
noncomputable def nxtG (ma wr : Int) (t : Nat → Int) (h : Cs) : Prop := funH Try.prog csX noX (ictrs [])
  (twoL 0 (natH (fun z => z ≤ h.n) (fun z => h.n - z) 2 (fun z => mkF 45 [(1, .ptr 0 0 0), (4, .sl 1 0 h.n), (14, hoV h), (15, i6 h.n), (16, i6 z)]) (fun z => mkX [vr 15 (iqW ma wr t (hoV h)), rw' 1 h.n fun k => i6 (mst ma wr t h z 0 k)]) fun _ => none) <|
   oneL 2 (twH 45 16 22 2 (fun s => s.1 < h.n ∧ s.2 ≤ 2) (fun s => 2 - s.2) (fun s => mkF 45 [(1, .ptr 0 0 0), (4, .sl 1 0 h.n), (5, i6 s.1), (14, hoV h), (15, i6 h.n), (16, i6 s.1), (21, hole2 (h.su s.1) (h.ca s.1)), (22, i6 s.2)])
     (fun s => mkX [vr 15 (iqW ma wr t (hoV h)), rw' 1 h.n fun k => i6 (mst ma wr t h s.1 s.2 k)]))) noL 40 [iqW ma wr t (hoV h)] (.tup [i6 (leI (most ma wr t h) h.n), i6 (if h.n = 0 then 0 else most ma wr t h (leI (most ma wr t h) h.n))])
end Go.Proofs.Ytfjfnpknlkonnaa

set_option maxRecDepth 100000
namespace Go.Proofs.Ytfjfnpknlkonnaa
open Go Go.Lg
theorem leG_vc (n : Nat) (f : Nat → Int) : leG n f = ((∃ (z : Nat), z ≤ n ∧ (0 : Int) = (↑(leI f z) : Int) ∧ ((0 : Int) = if z = (0 : Nat) then (0 : Int) else f (leI f z)) ∧ n = n ∧ (∀ (i : Nat), i < n → rE ((i6 (f i)).den) ∧ True) ∧ rE (↑n : Int) ∧ (0 : Int) = (↑z : Int) ∧ True) ∧ ∀ (z : Nat), z ≤ n → ((↑z : Int) < (↑n : Int) → (0 : Int) ≤ (↑z : Int) ∧ (↑z : Int) < (↑n : Int) ∧ ((↑z : Int) = (0 : Int) → rI ((↑z : Int) + (1 : Int)) ∧ ∃ (z_1 : Nat), z_1 ≤ n ∧ n - z_1 < n - z ∧ (↑z : Int) = (↑(leI f z_1) : Int) ∧ (f (↑z : Int).toNat = if z_1 = (0 : Nat) then (0 : Int) else f (leI f z_1)) ∧ n = n ∧ (∀ (i : Nat), i < n → rE ((i6 (f i)).den) ∧ True) ∧ rE (↑n : Int) ∧ (↑z : Int) + (1 : Int) = (↑z_1 : Int) ∧ True) ∧ (¬(↑z : Int) = (0 : Int) → ((f (↑z : Int).toNat < if z = (0 : Nat) then (0 : Int) else f (leI f z)) → rI ((↑z : Int) + (1 : Int)) ∧ ∃ (z_1 : Nat), z_1 ≤ n ∧ n - z_1 < n - z ∧ (↑z : Int) = (↑(leI f z_1) : Int) ∧ (f (↑z : Int).toNat =
 if z_1 = (0 : Nat) then (0 : Int) else f (leI f z_1)) ∧ n = n ∧ (∀ (i : Nat), i < n → rE ((i6 (f i)).den) ∧ True) ∧ rE (↑n : Int) ∧ (↑z : Int) + (1 : Int) = (↑z_1 : Int) ∧ True) ∧ ((¬f (↑z : Int).toNat < if z = (0 : Nat) then (0 : Int) else f (leI f z)) → rI ((↑z : Int) + (1 : Int)) ∧ ∃ (z_1 : Nat), z_1 ≤ n ∧ n - z_1 < n - z ∧ (↑(leI f z) : Int) = (↑(leI f z_1) : Int) ∧ ((if z = (0 : Nat) then (0 : Int) else f (leI f z)) = if z_1 = (0 : Nat) then (0 : Int) else f (leI f z_1)) ∧ n = n ∧ (∀ (i : Nat), i < n → rE ((i6 (f i)).den) ∧ True) ∧ rE (↑n : Int) ∧ (↑z : Int) + (1 : Int) = (↑z_1 : Int) ∧ True))) ∧ (¬(↑z : Int) < (↑n : Int) → (↑(leI f z) : Int) = (↑(leI f n) : Int) ∧ ((if z = (0 : Nat) then (0 : Int) else f (leI f z)) = if n = (0 : Nat) then (0 : Int) else f (leI f n)) ∧ True)) := by kernel_rfl
def nxtG0 (h : Cs) : Prop := (∀ (i : Nat), i < h.1 → rE ((SV.agg [SV.clo (Fn.func (57 : FuncId)) [] [SV.ipt [SV.bool true, i6 (h.su i), i6 (h.ca i)]], SV.clo (Fn.func (58 : FuncId)) [] [SV.ipt [SV.bool false, i6 (h.su i), i6 (h.ca i)]]]).den) ∧ (True ∧ (tt4) ∧ True) ∧ (True ∧ (tt4) ∧ True) ∧ True)
theorem nxtG_vc (ma : Int) (wr : Int) (t : Nat → Int) (h : Cs) : nxtG ma wr t h = ((0 : Nat) < (1 : Nat) ∧ (0 : Int) ≤ (↑h.1 : Int) ∧ (↑h.1 : Int) ≤ (↑h.1 : Int) ∧ (↑h.1 : Int) ≤ (1048576 : Int) ∧ (↑h.1 : Int) * (↑(8 : Nat) : Int) ≤ (140737488355328 : Int) ∧ (0 : Nat) < (1 : Nat) ∧ (∃ (z : Nat), z ≤ h.1 ∧ rE (0 : Nat) ∧ rE (0 : Nat) ∧ rE (0 : Nat) ∧ (↑h.1 : Int).toNat = h.1 ∧ h.1 = h.1 ∧ (nxtG0 h) ∧ rE (↑h.1 : Int) ∧ (0 : Int) = (↑z : Int) ∧ ma = ma ∧ wr = wr ∧ rE (t (0 : Nat)) ∧ rE (t (1 : Nat)) ∧ rE (t (2 : Nat)) ∧ rE (t (3 : Nat)) ∧ rE (t (4 : Nat)) ∧ rE (t (5 : Nat)) ∧ rE (t (6 : Nat)) ∧ rE (t (7 : Nat)) ∧ rE (t (8 : Nat)) ∧ rE (t (9 : Nat)) ∧ rE (t (10 : Nat)) ∧ rE (t (11 : Nat)) ∧ h.1 = h.1 ∧ (nxtG0 h) ∧ h.1 = (↑h.1 : Int).toNat ∧ (∀ (i : Nat), i < h.1 → rE (1 : Nat) ∧ (0 : Int) = mst ma wr t h z (0 : Nat) i ∧ True) ∧ True) ∧ ∀ (z : Nat), z ≤ h.1 → ((↑z : Int) < (↑h.1 : Int) → (0 : Int) ≤ (↑z : Int) ∧ (↑z : Int) < (↑h.1 : Int) ∧ (0 : Nat) < (1 : Nat) ∧ (((z <
 h.1 ∧ (0 : Nat) ≤ (2 : Nat)) ∧ z = (↑z : Int).toNat) ∧ rE (0 : Nat) ∧ rE (0 : Nat) ∧ rE (0 : Nat) ∧ h.1 = h.1 ∧ rE (↑z : Int) ∧ h.1 = h.1 ∧ (nxtG0 h) ∧ rE (↑h.1 : Int) ∧ rE (↑z : Int) ∧ rE (Fn.func (57 : FuncId)) ∧ rE (SV.denL [SV.bool true, i6 (h.su (↑z : Int).toNat), i6 (h.ca (↑z : Int).toNat)]) ∧ (tt4) ∧ rE (Fn.func (58 : FuncId)) ∧ rE (SV.denL [SV.bool false, i6 (h.su (↑z : Int).toNat), i6 (h.ca (↑z : Int).toNat)]) ∧ (tt4) ∧ (0 : Int) = (↑(0 : Nat) : Int) ∧ ma = ma ∧ wr = wr ∧ rE (t (0 : Nat)) ∧ rE (t (1 : Nat)) ∧ rE (t (2 : Nat)) ∧ rE (t (3 : Nat)) ∧ rE (t (4 : Nat)) ∧ rE (t (5 : Nat)) ∧ rE (t (6 : Nat)) ∧ rE (t (7 : Nat)) ∧ rE (t (8 : Nat)) ∧ rE (t (9 : Nat)) ∧ rE (t (10 : Nat)) ∧ rE (t (11 : Nat)) ∧ h.1 = h.1 ∧ (nxtG0 h) ∧ h.1 = h.1 ∧ (∀ (i : Nat), i < h.1 → rE (1 : Nat) ∧ rE (mst ma wr t h z (0 : Nat) i) ∧ True) ∧ True) ∧ ∀ (z_1 : Nat × Nat), (z_1.1 < h.1 ∧ z_1.2 ≤ (2 : Nat)) ∧
 z_1.1 = (↑z : Int).toNat → ((↑z_1.2 : Int) < (2 : Int) → (0 : Int) ≤ (↑z_1.2 : Int) ∧ (↑z_1.2 : Int) < (↑(2 : Nat) : Int) ∧ (↑z_1.2 : Int).toNat * (1 : Nat) < (2 : Nat) ∧ (True ∧ ((↑z_1.2 : Int).toNat * (1 : Nat) = (0 : Nat) → (0 : Int) ≤ (↑z_1.1 : Int) ∧ (↑z_1.1 : Int) < (↑h.1 : Int) ∧ (0 : Nat) + (↑z_1.1 : Int).toNat < h.1 ∧ (0 : Nat) < (1 : Nat) ∧ (0 : Nat) < (1 : Nat) ∧ (0 : Nat) < (1 : Nat) ∧ okT (t12 (t)) ∧ rE (57 : FuncId) ∧ (∀ (i : Nat), i < h.1 → (True ∧ (tt4) ∧ True) ∧ (True ∧ (tt4) ∧ True) ∧ True) ∧ ((1 : Int) ≤ ma ∧ ma ≤ (12 : Int)) ∧ (SV.lst (2 : Nat) h.n fun (k : Nat) => SV.agg [SV.clo (Fn.func (57 : FuncId)) [] [SV.ipt [SV.bool true, i6 (h.su k), i6 (h.ca k)]], SV.clo (Fn.func (58 : FuncId)) [] [SV.ipt [SV.bool false, i6 (h.su k), i6 (h.ca k)]]]) = hoV (hoOf h.n fun (k : Nat) => SV.agg [SV.clo (Fn.func (57 : FuncId)) [] [SV.ipt [SV.bool true, i6 (h.su k), i6 (h.ca k)]],
 SV.clo (Fn.func (58 : FuncId)) [] [SV.ipt [SV.bool false, i6 (h.su k), i6 (h.ca k)]]]) ∧ (0 : Int) ≤ (↑z_1.1 : Int) ∧ (↑z_1.1 : Int) < (↑h.1 : Int) ∧ (0 : Nat) + (1 : Nat) ≤ (1 : Nat) ∧ (0 : Nat) + (↑z_1.1 : Int).toNat < h.1 ∧ (∀ (i' : Nat), rE true) ∧ rI ((↑z_1.2 : Int) + (1 : Int)) ∧ (((↑z_1.1 : Int).toNat < h.1 ∧ ((↑z_1.2 : Int) + (1 : Int)).toNat ≤ (2 : Nat)) ∧ (↑z_1.1 : Int).toNat = (↑z : Int).toNat) ∧ (2 : Nat) - ((↑z_1.2 : Int) + (1 : Int)).toNat < (2 : Nat) - z_1.2 ∧ rE (0 : Nat) ∧ rE (0 : Nat) ∧ rE (0 : Nat) ∧ h.1 = h.1 ∧ (↑z_1.1 : Int) = (↑(↑z_1.1 : Int).toNat : Int) ∧ h.1 = h.1 ∧ (nxtG0 h) ∧ rE (↑h.1 : Int) ∧ (↑z_1.1 : Int) = (↑(↑z_1.1 : Int).toNat : Int) ∧ rE (Fn.func (57 : FuncId)) ∧ SV.denL [SV.bool true, i6 (h.su z_1.fst), i6 (h.ca z_1.fst)] = SV.denL [SV.bool true, i6 (h.su (↑z_1.fst : Int).toNat), i6 (h.ca (↑z_1.fst : Int).toNat)] ∧ (tt4) ∧ rE (Fn.func (58 : FuncId)) ∧
 SV.denL [SV.bool false, i6 (h.su z_1.fst), i6 (h.ca z_1.fst)] = SV.denL [SV.bool false, i6 (h.su (↑z_1.fst : Int).toNat), i6 (h.ca (↑z_1.fst : Int).toNat)] ∧ (tt4) ∧ (↑z_1.2 : Int) + (1 : Int) = (↑((↑z_1.2 : Int) + (1 : Int)).toNat : Int) ∧ ma = ma ∧ wr = wr ∧ rE (t (0 : Nat)) ∧ rE (t (1 : Nat)) ∧ rE (t (2 : Nat)) ∧ rE (t (3 : Nat)) ∧ rE (t (4 : Nat)) ∧ rE (t (5 : Nat)) ∧ rE (t (6 : Nat)) ∧ rE (t (7 : Nat)) ∧ rE (t (8 : Nat)) ∧ rE (t (9 : Nat)) ∧ rE (t (10 : Nat)) ∧ rE (t (11 : Nat)) ∧ h.1 = h.1 ∧ (nxtG0 h) ∧ h.1 = h.1 ∧ (∀ (i : Nat), i < h.1 → rE (1 : Nat) ∧ (if i = (0 : Nat) + (↑z_1.1 : Int).toNat then max (mst ma wr t h z_1.1 z_1.2 ((0 : Nat) + (↑z_1.1 : Int).toNat)) (↑(susL (t12 (wt (t12 (t)) ⟨true, h.su z_1.fst, h.ca z_1.fst⟩ (12 : Nat))) wr ma.toNat).length : Int) else mst ma wr t h z_1.1 z_1.2 i) = mst ma wr t h (↑z_1.1 : Int).toNat ((↑z_1.2 : Int) + (1 :
 Int)).toNat i ∧ True) ∧ True)) ∧ ((↑z_1.2 : Int).toNat * (1 : Nat) = (1 : Nat) → (0 : Int) ≤ (↑z_1.1 : Int) ∧ (↑z_1.1 : Int) < (↑h.1 : Int) ∧ (0 : Nat) + (↑z_1.1 : Int).toNat < h.1 ∧ (0 : Nat) < (1 : Nat) ∧ (0 : Nat) < (1 : Nat) ∧ (0 : Nat) < (1 : Nat) ∧ okT (t12 (t)) ∧ rE (58 : FuncId) ∧ (∀ (i : Nat), i < h.1 → (True ∧ (tt4) ∧ True) ∧ (True ∧ (tt4) ∧ True) ∧ True) ∧ ((1 : Int) ≤ ma ∧ ma ≤ (12 : Int)) ∧ (SV.lst (2 : Nat) h.n fun (k : Nat) => SV.agg [SV.clo (Fn.func (57 : FuncId)) [] [SV.ipt [SV.bool true, i6 (h.su k), i6 (h.ca k)]], SV.clo (Fn.func (58 : FuncId)) [] [SV.ipt [SV.bool false, i6 (h.su k), i6 (h.ca k)]]]) = hoV (hoOf h.n fun (k : Nat) => SV.agg [SV.clo (Fn.func (57 : FuncId)) [] [SV.ipt [SV.bool true, i6 (h.su k), i6 (h.ca k)]], SV.clo (Fn.func (58 : FuncId)) [] [SV.ipt [SV.bool false, i6 (h.su k), i6 (h.ca k)]]]) ∧ (0 : Int) ≤ (↑z_1.1 : Int) ∧ (↑z_1.1 : Int) < (↑h.1 : Int)
 ∧ (0 : Nat) + (1 : Nat) ≤ (1 : Nat) ∧ (0 : Nat) + (↑z_1.1 : Int).toNat < h.1 ∧ (∀ (i' : Nat), rE true) ∧ rI ((↑z_1.2 : Int) + (1 : Int)) ∧ (((↑z_1.1 : Int).toNat < h.1 ∧ ((↑z_1.2 : Int) + (1 : Int)).toNat ≤ (2 : Nat)) ∧ (↑z_1.1 : Int).toNat = (↑z : Int).toNat) ∧ (2 : Nat) - ((↑z_1.2 : Int) + (1 : Int)).toNat < (2 : Nat) - z_1.2 ∧ rE (0 : Nat) ∧ rE (0 : Nat) ∧ rE (0 : Nat) ∧ h.1 = h.1 ∧ (↑z_1.1 : Int) = (↑(↑z_1.1 : Int).toNat : Int) ∧ h.1 = h.1 ∧ (nxtG0 h) ∧ rE (↑h.1 : Int) ∧ (↑z_1.1 : Int) = (↑(↑z_1.1 : Int).toNat : Int) ∧ rE (Fn.func (57 : FuncId)) ∧ SV.denL [SV.bool true, i6 (h.su z_1.fst), i6 (h.ca z_1.fst)] = SV.denL [SV.bool true, i6 (h.su (↑z_1.fst : Int).toNat), i6 (h.ca (↑z_1.fst : Int).toNat)] ∧ (tt4) ∧ rE (Fn.func (58 : FuncId)) ∧ SV.denL [SV.bool false, i6 (h.su z_1.fst), i6 (h.ca z_1.fst)] = SV.denL [SV.bool false, i6 (h.su (↑z_1.fst : Int).toNat), i6 (h.ca (↑z_1.fst :
 Int).toNat)] ∧ (tt4) ∧ (↑z_1.2 : Int) + (1 : Int) = (↑((↑z_1.2 : Int) + (1 : Int)).toNat : Int) ∧ ma = ma ∧ wr = wr ∧ rE (t (0 : Nat)) ∧ rE (t (1 : Nat)) ∧ rE (t (2 : Nat)) ∧ rE (t (3 : Nat)) ∧ rE (t (4 : Nat)) ∧ rE (t (5 : Nat)) ∧ rE (t (6 : Nat)) ∧ rE (t (7 : Nat)) ∧ rE (t (8 : Nat)) ∧ rE (t (9 : Nat)) ∧ rE (t (10 : Nat)) ∧ rE (t (11 : Nat)) ∧ h.1 = h.1 ∧ (nxtG0 h) ∧ h.1 = h.1 ∧ (∀ (i : Nat), i < h.1 → rE (1 : Nat) ∧ (if i = (0 : Nat) + (↑z_1.1 : Int).toNat then max (mst ma wr t h z_1.1 z_1.2 ((0 : Nat) + (↑z_1.1 : Int).toNat)) (↑(susL (t12 (wt (t12 (t)) ⟨false, h.su z_1.fst, h.ca z_1.fst⟩ (12 : Nat))) wr ma.toNat).length : Int) else mst ma wr t h z_1.1 z_1.2 i) = mst ma wr t h (↑z_1.1 : Int).toNat ((↑z_1.2 : Int) + (1 : Int)).toNat i ∧ True) ∧ True)) ∧ (¬(↑z_1.2 : Int) < (2 : Int) → rI ((↑z_1.1 : Int) + (1 : Int)) ∧ ∃ (z_2 : Nat), z_2 ≤ h.1 ∧ h.1 - z_2 < h.1 - z ∧
 rE (0 : Nat) ∧ rE (0 : Nat) ∧ rE (0 : Nat) ∧ h.1 = h.1 ∧ h.1 = h.1 ∧ (nxtG0 h) ∧ rE (↑h.1 : Int) ∧ (↑z_1.1 : Int) + (1 : Int) = (↑z_2 : Int) ∧ ma = ma ∧ wr = wr ∧ rE (t (0 : Nat)) ∧ rE (t (1 : Nat)) ∧ rE (t (2 : Nat)) ∧ rE (t (3 : Nat)) ∧ rE (t (4 : Nat)) ∧ rE (t (5 : Nat)) ∧ rE (t (6 : Nat)) ∧ rE (t (7 : Nat)) ∧ rE (t (8 : Nat)) ∧ rE (t (9 : Nat)) ∧ rE (t (10 : Nat)) ∧ rE (t (11 : Nat)) ∧ h.1 = h.1 ∧ (nxtG0 h) ∧ h.1 = h.1 ∧ (∀ (i : Nat), i < h.1 → rE (1 : Nat) ∧ mst ma wr t h z_1.1 z_1.2 i = mst ma wr t h z_2 (0 : Nat) i ∧ True) ∧ True)) ∧ (¬(↑z : Int) < (↑h.1 : Int) → (0 : Nat) + h.1 ≤ h.1 ∧ (∀ (i : Nat), i < h.1 → rE (1 : Nat) ∧ True) ∧ ((SV.lst (1 : Nat) h.n fun (i : Nat) => i6 (mst ma wr t h z (0 : Nat) (i + (0 : Nat)))) = li h.n fun (i : Nat) => prI (i6 (mst ma wr t h z (0 : Nat) (i + (0 : Nat))))) ∧ h.1 ≤ (1000 : Nat) ∧ (↑(leI (fun (i : Nat) => prI (i6 (mst ma wr t h z (0 : Nat)
 (i + (0 : Nat))))) h.1) : Int) = (↑(leI (most ma wr t h) h.1) : Int) ∧ ((if h.1 = (0 : Nat) then (0 : Int) else mst ma wr t h z (0 : Nat) (leI (fun (i : Nat) => prI (i6 (mst ma wr t h z (0 : Nat) (i + (0 : Nat))))) h.1 + (0 : Nat))) = if h.1 = (0 : Nat) then (0 : Int) else most ma wr t h (leI (most ma wr t h) h.1)) ∧ True)) := by kernel_rfl
end Go.Proofs.Ytfjfnpknlkonnaa
