import Derived.Test.YtoeolgeidpjgbaaVaVbVcVdXaXbXcXd
set_option linter.unusedVariables false
namespace Go.Proofs.Ytoeolgeidpjgbaa
open Go Go.Lg
attribute [local irreducible] funS
def prI : SV → Int
  | .int _ z => z
  | _ => 0
def cells' : SV → List SV
  | .agg c => c
  | _ => []
def nth' : List SV → Nat → SV
  | [], _ => .any
  | x :: _, 0 => x
  | _ :: xs, i + 1 => nth' xs i
def lenS : SV → Nat
  | .lst _ n _ => n
  | _ => 0
def eltS : SV → Nat → SV
  | .lst _ _ f => f
  | _ => fun _ => .any
def wOf (x : SV) : Wt := ⟨prI (nth' (cells' x) 0), prI (nth' (cells' x) 1), prI (nth' (cells' x) 2), prI (nth' (cells' x) 3), lenS (nth' (cells' x) 4),
  fun i => prI (nth' (cells' (eltS (nth' (cells' x) 4) i)) 0), fun i => prI (nth' (cells' (eltS (nth' (cells' x) 4) i)) 1),
  prI (nth' (cells' x) 5), prI (nth' (cells' x) 6), prI (nth' (cells' x) 7), prI (nth' (cells' x) 8), prI (nth' (cells' x) 9)⟩
def wC (g : FuncId) (C : Wt → List SV → (SV → Prop) → Prop) : Ctr := ⟨g, fun args k => match args with
  | x :: r => x = (wOf x).sv ∧ C (wOf x) r k
  | [] => False⟩
theorem wC_okF {g : FuncId} {C : Wt → List SV → (SV → Prop) → Prop} (hc : callable Try.prog g = true)
    (h : ∀ w r k, C w r k → ∃ res, Does Try.prog g false (SV.denL (w.sv :: r)) res.den ∧ k res) : (wC g C).OkF Try.prog := by
  refine ⟨hc, fun args k hk => ?_⟩
  simp only [wC] at hk
  split at hk
  · rename_i x r
    obtain ⟨hx, hC⟩ := hk
    rw [hx]
    exact h _ r k hC
  · exact hk.elim
theorem csA_sound : SoundS Try.prog csA := ctrs_sound (by
  intro x hx
  simp only [List.mem_cons, List.not_mem_nil, or_false] at hx
  rcases hx with rfl | rfl
  · exact isFrom_ok
  · exact in_ok)
theorem csX_sound : SoundS Try.prog csX := ctrs_sound (by
  intro x hx
  simp only [List.mem_cons, List.not_mem_nil, or_false] at hx
  rcases hx with rfl | rfl | rfl | rfl
  · exact isFrom_ok
  · exact in_ok
  · exact vspan_ok
  · exact span_ok)
def watchC (g : FuncId) : Ctr := wC g fun w r k => match r with
  | [] => k (.dec (watchP w) (Classical.propDecidable _))
  | _ => False
def isPlanC (g : FuncId) : Ctr := wC g fun w r k => match r with
  | [.lst sz m f] => sz = 1 ∧ f = (fun i => i6 (prI (f i))) ∧ m ≤ 1000 ∧ k (.dec (isPlanP w m fun i => prI (f i)) (Classical.propDecidable _))
  | _ => False
def greatC : Ctr := wC 19 fun w r k => match r with
  | [.int .i64 n] => k (.dec ((n < w.n ∧ (w.n : Int) ≤ 12) ∨ 20 < (w.n : Int)) inferInstance)
  | _ => False
def afterC : Ctr := wC 53 fun w r k => match r with
  | [.int .i64 hour, .int .i64 total] => (watchP w ∧ 0 ≤ hour ∧ hour < w.n ∧ 0 ≤ total ∧ total ≤ 1000) ∧ k (.agg [i6 (w.s0 + w.yield * total - tk w.dh (hour.toNat + 1)), i6 (w.s1 + w.yield * total - tk w.dl (hour.toNat + 1))])
  | _ => False
theorem watch_okF : (watchC 34).OkF Try.prog := wC_okF (by kernel_rfl) fun w r k hk => by
  split at hk
  · have hh := watch_true w
    unfold watchG at hh
    exact ⟨_, funS_does csX_sound mixed hh, hk⟩
  · exact hk.elim
theorem watch2_okF : (watchC 49).OkF Try.prog := wC_okF (by kernel_rfl) fun w r k hk => by
  split at hk
  · have hh := watch2_true w
    unfold watchG' at hh
    exact ⟨_, funS_does csX_sound mixed hh, hk⟩
  · exact hk.elim
theorem great_okF : greatC.OkF Try.prog := wC_okF (by kernel_rfl) fun w r k hk => by
  split at hk
  · rename_i n
    have hh := great_true w n
    unfold greatG at hh
    exact ⟨_, funS_does csX_sound mixed hh, hk⟩
  · exact hk.elim
theorem plan_eq {m : Nat} {f : Nat → SV} (hf : f = fun i => i6 (prI (f i))) : SV.lst 1 m f = planV m fun i => prI (f i) := by unfold planV; rw [← hf]
theorem isPlan_okF : (isPlanC 35).OkF Try.prog := wC_okF (by kernel_rfl) fun w r k hk => by
  split at hk
  · rename_i sz m f
    obtain ⟨rfl, hf, hm, hk⟩ := hk
    have hh := isPlan_true w m (fun i => prI (f i)) hm
    unfold isPlanG at hh
    rw [plan_eq hf]
    exact ⟨_, funS_does csA_sound mixed hh, hk⟩
  · exact hk.elim
theorem isPlan2_okF : (isPlanC 50).OkF Try.prog := wC_okF (by kernel_rfl) fun w r k hk => by
  split at hk
  · rename_i sz m f
    obtain ⟨rfl, hf, hm, hk⟩ := hk
    have hh := isPlan2_true w m (fun i => prI (f i)) hm
    unfold isPlanG' at hh
    rw [plan_eq hf]
    exact ⟨_, funS_does csX_sound mixed hh, hk⟩
  · exact hk.elim
theorem after_okF : afterC.OkF Try.prog := wC_okF (by kernel_rfl) fun w r k hk => by
  split at hk
  · rename_i hour total
    obtain ⟨⟨h1, h2, h3, h4, h5⟩, hk⟩ := hk
    have hh := after_true w hour total h1 h2 h3 h4 h5
    unfold afterG at hh
    exact ⟨_, funS_does csX_sound mixed hh, hk⟩
  · exact hk.elim
noncomputable def csR : CSpec := ctrsF [watchC 34, isPlanC 35, afterC] csX
def loF (w : Wt) (p : Nat → Int) (j : Nat) : Int := w.s0 + w.yield * tk p (j + 1) - tk w.dh (j + 1)
def hiF (w : Wt) (p : Nat → Int) (j : Nat) : Int := w.s1 + w.yield * tk p (j + 1) - tk w.dl (j + 1)
def okHr (w : Wt) (p : Nat → Int) (j : Nat) : Prop := ¬ loF w p j < w.least ∧ ¬ w.full < hiF w p j
def heldF (w : Wt) (p : Nat → Int) : Nat → SV := fun j => .agg [i6 (loF w p j), i6 (hiF w p j)]
noncomputable def outS1 (n m slot : Nat) (inv : Nat → Prop) (t : Nat → FS) (X : Nat → XS) (out : Nat) : LSpec where
  σ := Nat
  inv := inv
  μ := fun i => m - i
  nr := 1
  ms := fun t _ => match sget n t out with
    | .sl r _ _ => [some r]
    | _ => []
  t := t
  X := X
  rd := fun t X k => match sget n t slot with
    | .int _ z => k z.toNat
    | _ => False
  rdOK := rdI
  peel := some (m + 1)
noncomputable def holdsG (w : Wt) (m : Nat) (p : Nat → Int) (N : Nat) (H E : Int) : Prop :=
  funS Try.prog csR (one (outS1 53 m 9 (fun i => i ≤ m ∧ ∀ j, j < i → okHr w p j) (fun i => mkF 53 [(1, planV m p), (2, .ptr 0 0 0), (4, .val (.slice none 0 0)), (5, i6 0), (6, i6 0), (7, .sl 1 0 i), (8, i6 (tk p i)), (9, i6 i)])
    (fun i => mkX [vr 10 w.sv, ⟨2, i, heldF w p, false⟩]) 7)) 21 [w.sv, planV m p] (.tup [.lst 2 N (heldF w p), i6 H, i6 E])
end Go.Proofs.Ytoeolgeidpjgbaa

set_option linter.unusedVariables false
namespace Go.Proofs.Ytoeolgeidpjgbaa
open Go Go.Lg
theorem holdsG_vc (w : Wt) (m : Nat) (p : Nat → Int) (N : Nat) (H E : Int) : holdsG w m p N H E =
  ((0 : Nat) < nat_lit 1 ∧ (∀ (i : Nat), i < w.5 → True ∧ True ∧ True) ∧ w.sv = w.sv ∧ (¬(watchP w) → (0 : Nat) = N ∧ (0 : Int) = H ∧ (1 : Int) = E ∧ True) ∧ (¬¬(watchP w) → (0 : Nat) < nat_lit 1 ∧ (∀ (i : Nat), i < w.5 → True ∧ True ∧ True) ∧ (∀ (i : Nat), i < m → True) ∧ w.sv = w.sv ∧ (1 : Nat) = (1 : Nat) ∧ ((fun i => i6 (p i)) = fun i => i6 (prI ((fun i => i6 (p i)) i))) ∧ m ≤ (1000 : Nat) ∧ (¬(isPlanP w m p) → (0 : Nat) = N ∧ (0 : Int) = H ∧ (2 : Int) = E ∧ True) ∧ (¬¬(isPlanP w m p) → (((0 : Int) < (↑m : Int) → (0 : Int) ≤ (0 : Int) ∧ (0 : Int) < (↑m : Int) ∧ ((-9223372036854775808 : Int) ≤ (0 : Int) + p (Int.toNat (0 : Int)) ∧ (0 : Int) + p (Int.toNat (0 : Int)) ≤ (9223372036854775807 : Int)) ∧ (0 : Nat) < nat_lit 1 ∧ (∀ (i : Nat), i < w.5 → True ∧ True ∧ True) ∧ w.sv = w.sv ∧ ((watchP w) ∧ (0 : Int) ≤ (0 : Int) ∧ (0 : Int) < (↑w.5 : Int) ∧ (0 : Int) ≤ (0 : Int) + p (Int.toNat (0 : Int)) ∧ (0 : Int) + p (Int.toNat (0 : Int)) ≤ (1000 : Int)) ∧ (0 : Nat) < nat_lit 1 ∧ (0 : Nat) < nat_lit 1 ∧ (w.3 + w.10 * ((0 : Int) + p (Int.toNat (0 : Int))) - ((0 : Int) + w.7 (nat_lit 0)) < w.2 → (0 : Nat) = N ∧ (0 : Int) = H ∧ (10 : Int) = E ∧ True) ∧ (¬w.3 + w.10 * ((0 : Int) + p (Int.toNat (0 : Int))) - ((0 : Int) + w.7 (nat_lit 0)) < w.2 → (0 : Nat) < nat_lit 1 ∧ (0 : Nat) < nat_lit 1 ∧ (w.1 < w.4 + w.10 * ((0 : Int) + p (Int.toNat (0 : Int))) - ((0 : Int) + w.6 (nat_lit 0)) → (0 : Nat) = N ∧ (0 : Int) = H ∧ (9 : Int) = E ∧ True) ∧ (¬w.1 < w.4 + w.10 * ((0 : Int) + p (Int.toNat (0 : Int))) - ((0 : Int) + w.6 (nat_lit 0)) → (0 : Nat) < nat_lit 1 ∧ True ∧ (∀ (i : Nat), i < (1 : Nat) → true = true) ∧ (1 : Nat) * nat_lit 16 ≤ (140737488355328 : Nat) ∧ (1 : Nat) ≤ (4611686018427387904 : Nat) ∧ ((-9223372036854775808 : Int) ≤ (0 : Int) + (1 : Int) ∧ (0 : Int) + (1 : Int) ≤ (9223372036854775807 : Int)) ∧ (((0 : Int) + (1 : Int)).toNat ≤ m ∧ ∀ (j : Nat), j < ((0 : Int) + (1 : Int)).toNat → ¬w.3 + w.10 * (tk p j + p j) - (tk w.dh j + w.7 j) < w.2 ∧ ¬w.1 < w.4 + w.10 * (tk p j + p j) - (tk w.dl j + w.6 j)) ∧ m - ((0 : Int) + (1 : Int)).toNat < m + (1 : Nat) ∧ m = m ∧ (∀ (i : Nat), i < m → ((fun i => i6 (p i)) i).den = ((fun i => i6 (p i)) i).den ∧ True) ∧ (0 : Nat) = (0 : Nat) ∧ (0 : Nat) = (0 : Nat) ∧ Value.slice none (0 : Nat) (0 : Nat) = Value.slice none (0 : Nat) (0 : Nat) ∧ (0 : Int) = (0 : Int) ∧ (0 : Int) = (0 : Int) ∧ (0 : Nat) = (0 : Nat) ∧ (1 : Nat) = ((0 : Int) + (1 : Int)).toNat ∧ (0 : Int) + p (Int.toNat (0 : Int)) = (0 : Int) + p (nat_lit 0) ∧ (0 : Int) + (1 : Int) = (↑((0 : Int) + (1 : Int)).toNat : Int) ∧ w.1 = w.1 ∧ w.2 = w.2 ∧ w.3 = w.3 ∧ w.4 = w.4 ∧ w.5 = w.5 ∧ (∀ (i : Nat), i < w.5 → ((fun i => SV.agg [i6 (w.dl i), i6 (w.dh i)]) i).den = ((fun i => SV.agg [i6 (w.dl i), i6 (w.dh i)]) i).den ∧ True ∧ True ∧ True) ∧ w.8 = w.8 ∧ w.9 = w.9 ∧ w.10 = w.10 ∧ w.11 = w.11 ∧ w.12 = w.12 ∧ nat_lit 1 = nat_lit 1 ∧ (∀ (i : Nat), i < nat_lit 1 → nat_lit 2 = nat_lit 2 ∧ w.3 + w.10 * ((0 : Int) + p (Int.toNat (0 : Int))) - ((0 : Int) + w.7 (nat_lit 0)) = w.3 + w.10 * (tk p i + p i) - (tk w.dh i + w.7 i) ∧ w.4 + w.10 * ((0 : Int) + p (Int.toNat (0 : Int))) - ((0 : Int) + w.6 (nat_lit 0)) = w.4 + w.10 * (tk p i + p i) - (tk w.dl i + w.6 i) ∧ True) ∧ True))) ∧ (¬(0 : Int) < (↑m : Int) → (0 : Nat) = N ∧ (↑m : Int) = H ∧ (0 : Int) = E ∧ True)) ∧ ∀ (z : Nat), (z ≤ m ∧ ∀ (j : Nat), j < z → ¬w.3 + w.10 * (tk p j + p j) - (tk w.dh j + w.7 j) < w.2 ∧ ¬w.1 < w.4 + w.10 * (tk p j + p j) - (tk w.dl j + w.6 j)) → ((↑z : Int) < (↑m : Int) → (0 : Int) ≤ (↑z : Int) ∧ (↑z : Int) < (↑m : Int) ∧ ((-9223372036854775808 : Int) ≤ tk p z + p (↑z : Int).toNat ∧ tk p z + p (↑z : Int).toNat ≤ (9223372036854775807 : Int)) ∧ (0 : Nat) < nat_lit 1 ∧ (∀ (i : Nat), i < w.5 → True ∧ True ∧ True) ∧ w.sv = w.sv ∧ ((watchP w) ∧ (0 : Int) ≤ (↑z : Int) ∧ (↑z : Int) < (↑w.5 : Int) ∧ (0 : Int) ≤ tk p z + p (↑z : Int).toNat ∧ tk p z + p (↑z : Int).toNat ≤ (1000 : Int)) ∧ (0 : Nat) < nat_lit 1 ∧ (0 : Nat) < nat_lit 1 ∧ (w.3 + w.10 * (tk p z + p (↑z : Int).toNat) - (tk w.dh (↑z : Int).toNat + w.7 (↑z : Int).toNat) < w.2 → (0 : Nat) = N ∧ (↑z : Int) = H ∧ (10 : Int) = E ∧ True) ∧ (¬w.3 + w.10 * (tk p z + p (↑z : Int).toNat) - (tk w.dh (↑z : Int).toNat + w.7 (↑z : Int).toNat) < w.2 → (0 : Nat) < nat_lit 1 ∧ (0 : Nat) < nat_lit 1 ∧ (w.1 < w.4 + w.10 * (tk p z + p (↑z : Int).toNat) - (tk w.dl (↑z : Int).toNat + w.6 (↑z : Int).toNat) → (0 : Nat) = N ∧ (↑z : Int) = H ∧ (9 : Int) = E ∧ True) ∧ (¬w.1 < w.4 + w.10 * (tk p z + p (↑z : Int).toNat) - (tk w.dl (↑z : Int).toNat + w.6 (↑z : Int).toNat) → (0 : Nat) < nat_lit 1 ∧ True ∧ (∀ (i : Nat), i < (1 : Nat) → true = true) ∧ (0 : Nat) = (0 : Nat) ∧ z = z ∧ (∀ (i : Nat), true = true) ∧ (z + (1 : Nat)) * nat_lit 16 ≤ (140737488355328 : Nat) ∧ z + (1 : Nat) ≤ (4611686018427387904 : Nat) ∧ ((-9223372036854775808 : Int) ≤ (↑z : Int) + (1 : Int) ∧ (↑z : Int) + (1 : Int) ≤ (9223372036854775807 : Int)) ∧ (((↑z : Int) + (1 : Int)).toNat ≤ m ∧ ∀ (j : Nat), j < ((↑z : Int) + (1 : Int)).toNat → ¬w.3 + w.10 * (tk p j + p j) - (tk w.dh j + w.7 j) < w.2 ∧ ¬w.1 < w.4 + w.10 * (tk p j + p j) - (tk w.dl j + w.6 j)) ∧ m - ((↑z : Int) + (1 : Int)).toNat < m - z ∧ m = m ∧ (∀ (i : Nat), i < m → ((fun i => i6 (p i)) i).den = ((fun i => i6 (p i)) i).den ∧ True) ∧ (0 : Nat) = (0 : Nat) ∧ (0 : Nat) = (0 : Nat) ∧ Value.slice none (0 : Nat) (0 : Nat) = Value.slice none (0 : Nat) (0 : Nat) ∧ (0 : Int) = (0 : Int) ∧ (0 : Int) = (0 : Int) ∧ (0 : Nat) = (0 : Nat) ∧ z + (1 : Nat) = ((↑z : Int) + (1 : Int)).toNat ∧ tk p z + p (↑z : Int).toNat = tk p z + p z ∧ (↑z : Int) + (1 : Int) = (↑((↑z : Int) + (1 : Int)).toNat : Int) ∧ w.1 = w.1 ∧ w.2 = w.2 ∧ w.3 = w.3 ∧ w.4 = w.4 ∧ w.5 = w.5 ∧ (∀ (i : Nat), i < w.5 → ((fun i => SV.agg [i6 (w.dl i), i6 (w.dh i)]) i).den = ((fun i => SV.agg [i6 (w.dl i), i6 (w.dh i)]) i).den ∧ True ∧ True ∧ True) ∧ w.8 = w.8 ∧ w.9 = w.9 ∧ w.10 = w.10 ∧ w.11 = w.11 ∧ w.12 = w.12 ∧ ((↑z : Int) + (1 : Int)).toNat = z + (1 : Nat) ∧ (∀ (i : Nat), i < ((↑z : Int) + (1 : Int)).toNat → nat_lit 2 = nat_lit 2 ∧ (if i < z then w.3 + w.10 * (tk p i + p i) - (tk w.dh i + w.7 i) else w.3 + w.10 * (tk p z + p (↑z : Int).toNat) - (tk w.dh (↑z : Int).toNat + w.7 (↑z : Int).toNat)) = w.3 + w.10 * (tk p i + p i) - (tk w.dh i + w.7 i) ∧ (if i < z then w.4 + w.10 * (tk p i + p i) - (tk w.dl i + w.6 i) else w.4 + w.10 * (tk p z + p (↑z : Int).toNat) - (tk w.dl (↑z : Int).toNat + w.6 (↑z : Int).toNat)) = w.4 + w.10 * (tk p i + p i) - (tk w.dl i + w.6 i) ∧ True) ∧ True))) ∧ (¬(↑z : Int) < (↑m : Int) → z = N ∧ (0 : Nat) + N ≤ z ∧ (∀ (i : Nat), i < N → nat_lit 2 = (2 : Nat) ∧ nat_lit 2 = (2 : Nat) ∧ w.3 + w.10 * (tk p i + p i) - (tk w.dh i + w.7 i) = w.3 + w.10 * (tk p i + p i) - (tk w.dh i + w.7 i) ∧ w.4 + w.10 * (tk p i + p i) - (tk w.dl i + w.6 i) = w.4 + w.10 * (tk p i + p i) - (tk w.dl i + w.6 i) ∧ True) ∧ (↑m : Int) = H ∧ (0 : Int) = E ∧ True))) 
) := by kernel_rfl
end Go.Proofs.Ytoeolgeidpjgbaa

set_option linter.unusedVariables false
namespace Go.Proofs.Ytoeolgeidpjgbaa
open Go Go.Lg
attribute [local irreducible] funS
open Classical in
noncomputable def fb (w : Wt) (p : Nat → Int) : Nat → Nat
  | 0 => 0
  | i + 1 => if fb w p i < i then fb w p i else if okHr w p i then i + 1 else i
theorem fb_all {w : Wt} {p : Nat → Int} : ∀ {i : Nat}, (∀ j, j < i → okHr w p j) → fb w p i = i
  | 0, _ => rfl
  | i + 1, h => by
    have := fb_all (i := i) fun j hj => h j (by omega)
    simp only [fb, this, Nat.lt_irrefl, if_false, h i (by omega), if_true]
theorem fb_at {w : Wt} {p : Nat → Int} {h : Nat} (ha : ∀ j, j < h → okHr w p j) (hb : ¬ okHr w p h) : ∀ {i : Nat}, h < i → fb w p i = h
  | 0, hi => by omega
  | i + 1, hi => by
    rcases Nat.lt_or_ge h i with h' | h'
    · have := fb_at ha hb h'
      simp only [fb, this, h', if_true]
    · have e : h = i := by omega
      subst e
      simp only [fb, fb_all ha, Nat.lt_irrefl, if_false, hb]
open Classical in
noncomputable def hN (w : Wt) (m : Nat) (p : Nat → Int) : Nat := if watchP w ∧ isPlanP w m p ∧ fb w p m = m then m else 0
open Classical in
noncomputable def hH (w : Wt) (m : Nat) (p : Nat → Int) : Int := if watchP w ∧ isPlanP w m p then fb w p m else 0
open Classical in
noncomputable def hEr (w : Wt) (m : Nat) (p : Nat → Int) : Int := if watchP w then (if isPlanP w m p then (if fb w p m = m then 0 else if loF w p (fb w p m) < w.least then 10 else 9) else 2) else 1
theorem h_bad {w : Wt} {m : Nat} {p : Nat → Int} (hw : ¬ watchP w) : 0 = hN w m p ∧ 0 = hH w m p ∧ 1 = hEr w m p := by simp [hN, hH, hEr, hw]
theorem h_range {w : Wt} {m : Nat} {p : Nat → Int} (hw : watchP w) (hp : ¬ isPlanP w m p) : 0 = hN w m p ∧ 0 = hH w m p ∧ 2 = hEr w m p := by simp [hN, hH, hEr, hw, hp]
theorem h_all {w : Wt} {m : Nat} {p : Nat → Int} (hw : watchP w) (hp : isPlanP w m p) (h : ∀ j, j < m → okHr w p j) : m = hN w m p ∧ (m : Int) = hH w m p ∧ 0 = hEr w m p := by
  simp [hN, hH, hEr, hw, hp, fb_all h]
theorem h_short {w : Wt} {m : Nat} {p : Nat → Int} (hw : watchP w) (hp : isPlanP w m p) {h : Nat} (hm : h < m) (ha : ∀ j, j < h → okHr w p j) (hb : loF w p h < w.least) : 0 = hN w m p ∧ (h : Int) = hH w m p ∧ 10 = hEr w m p := by
  have e := fb_at ha (fun x => x.1 hb) hm
  have : ¬ h = m := by omega
  simp [hN, hH, hEr, hw, hp, e, this, hb]
theorem h_full {w : Wt} {m : Nat} {p : Nat → Int} (hw : watchP w) (hp : isPlanP w m p) {h : Nat} (hm : h < m) (ha : ∀ j, j < h → okHr w p j) (hl : ¬ loF w p h < w.least) (hb : w.full < hiF w p h) : 0 = hN w m p ∧ (h : Int) = hH w m p ∧ 9 = hEr w m p := by
  have e := fb_at ha (fun x => x.2 hb) hm
  have : ¬ h = m := by omega
  simp [hN, hH, hEr, hw, hp, e, this, hl]
theorem tkP {w : Wt} {m : Nat} {p : Nat → Int} (hw : watchP w) (hp : isPlanP w m p) : ∀ i, i ≤ m → 0 ≤ tk p i ∧ tk p i ≤ 4 * (i : Int)
  | 0, _ => by simp [tk]
  | i + 1, h => by
    have := tkP hw hp i (by omega)
    have := hp.2 i (by omega)
    have := hw.1.2.1
    simp only [tk]; push_cast; omega
theorem holds_true (w : Wt) (m : Nat) (p : Nat → Int) (hm : m ≤ 30) : holdsG w m p (hN w m p) (hH w m p) (hEr w m p) := by
  rw [holdsG_vc]
  simp only [and_true, true_and, Int.toNat_natCast, implies_true, Int.toNat_zero, lit1, and_self, Classical.not_not]
  refine ⟨fun hw => h_bad hw, fun hw => ⟨rfl, by omega, fun hp => h_range hw hp, fun hp => ?_⟩⟩
  have hn := hw.1.1.2.2.2
  have hpm := hp.1
  have hN1 : m ≤ 12 := by omega
  have ht := tkP hw hp
  have hret := hw.1.2.1
  refine ⟨⟨fun h0 => ?_, fun h0 => ?_⟩, fun z hz => ⟨fun hlt => ?_, fun hge => ?_⟩⟩
  · have p0 := hp.2 0 (by omega)
    refine ⟨by omega, h0, by omega, ⟨hw, by omega, by omega, by omega, by omega⟩, fun a => h_short (h := 0) hw hp (by omega) (fun j hj => absurd hj (Nat.not_lt_zero j)) a, fun a => ⟨fun b => h_full (h := 0) hw hp (by omega) (fun j hj => absurd hj (Nat.not_lt_zero j)) a b, fun b => ⟨by omega, by omega, by omega, ⟨by omega, fun j hj => ?_⟩, by omega, by omega, by omega, fun i hi => ?_⟩⟩⟩
    · have : j = 0 := by omega
      subst this; exact ⟨a, b⟩
    · have : i = 0 := by omega
      subst this; exact ⟨rfl, rfl⟩
  · have : m = 0 := by omega
    subst this
    exact h_all hw hp fun j hj => by omega
  · have pz := hp.2 z (by omega)
    have tz := ht z (by omega)
    have e : ((z : Int) + 1).toNat = z + 1 := by omega
    refine ⟨by omega, hlt, by omega, ⟨hw, by omega, by omega, by omega, by omega⟩, fun a => h_short hw hp (by omega) hz.2 a, fun a => ⟨fun b => h_full hw hp (by omega) hz.2 a b, fun b => ⟨by omega, by omega, by omega, ⟨by omega, fun j hj => ?_⟩, by omega, by omega, by omega, by omega, fun i hi => ?_⟩⟩⟩
    · rw [e] at hj
      rcases Nat.lt_succ_iff_lt_or_eq.1 hj with h' | rfl
      · exact hz.2 j h'
      · exact ⟨a, b⟩
    · by_cases hi' : i < z
      · simp only [hi', if_true, and_self]
      · have : i = z := by omega
        subst this
        simp only [Nat.lt_irrefl, if_false]
        exact ⟨trivial, trivial⟩
  · have : z = m := by omega
    subst this
    obtain ⟨a1, a2, a3⟩ := h_all hw hp hz.2
    exact ⟨a1, by omega, a2, a3⟩
end Go.Proofs.Ytoeolgeidpjgbaa

set_option linter.unusedVariables false
namespace Go.Proofs.Ytoeolgeidpjgbaa
open Go Go.Lg
attribute [local irreducible] funS
noncomputable def loG (a b : Int) : Prop := funS Try.prog (ctrs []) (fun _ => none) 88 [.agg [i6 a, i6 b]] (i6 a)
noncomputable def hiG (a b : Int) : Prop := funS Try.prog (ctrs []) (fun _ => none) 87 [.agg [i6 a, i6 b]] (i6 b)
theorem lo_vc (a b : Int) : loG a b = ((0 : Nat) < nat_lit 1 ∧ a = a ∧ True) := by kernel_rfl
theorem hi_vc (a b : Int) : hiG a b = ((0 : Nat) < nat_lit 1 ∧ b = b ∧ True) := by kernel_rfl
def endC (g : FuncId) (s : Int → Int → Int) : Ctr := ⟨g, fun args k => match args with
  | [.agg [.int .i64 a, .int .i64 b]] => k (i6 (s a b))
  | _ => False⟩
theorem lo_ok : (endC 88 fun a _ => a).Ok Try.prog := by
  refine ⟨by kernel_rfl, fun args k h => ?_⟩
  simp only [endC] at h
  split at h
  · rename_i a b
    have hh : loG a b := by rw [lo_vc]; simp
    unfold loG at hh
    exact ⟨_, Does.plain (funS_does (ctrs_sound (by simp)) mixed hh) trivial, h⟩
  · exact h.elim
theorem hi_ok : (endC 87 fun _ b => b).Ok Try.prog := by
  refine ⟨by kernel_rfl, fun args k h => ?_⟩
  simp only [endC] at h
  split at h
  · rename_i a b
    have hh : hiG a b := by rw [hi_vc]; simp
    unfold hiG at hh
    exact ⟨_, Does.plain (funS_does (ctrs_sound (by simp)) mixed hh) trivial, h⟩
  · exact h.elim
noncomputable def csY : CSpec := ctrs [endC 88 fun a _ => a, endC 87 fun _ b => b]
theorem csY_sound : SoundS Try.prog csY := ctrs_sound (by
  intro x hx
  simp only [List.mem_cons, List.not_mem_nil, or_false] at hx
  rcases hx with rfl | rfl
  · exact lo_ok
  · exact hi_ok)
def fv (g : FuncId) : SV := .val (.func (.func g) #[] #[])
def courseV (n : Nat) (L : Nat → Int) (y : Int) : SV := .agg [.lst 1 n fun j => i6 (L j), i6 y]
noncomputable def courseG (w : Wt) (s : Int) (g : FuncId) (f : Nat → Int) : Prop :=
  funS Try.prog csY (one (cntX w.n 37 20 4 (fun i => i ≤ w.n) (fun i => mkF 37 [(1, i6 (s - tk f i)), (2, fv g), (3, .ptr 0 0 0), (6, .ptr 1 0 0), (7, .ptr 3 0 0), (18, .lst 2 w.n (fun i => .agg [i6 (w.dl i), i6 (w.dh i)])), (19, i6 w.n), (20, i6 i)])
    fun i => mkX [vr 10 w.sv, vr 2 (.agg [.val (.slice none 0 0), i6 0]), ⟨1, w.n, fun j => i6 (if j < i then s - tk f (j + 1) else 0), false⟩, vr 2 (.agg [.sl 2 0 w.n, i6 w.yield])])) 86 [w.sv, i6 s, fv g] (courseV w.n (fun j => s - tk f (j + 1)) w.yield)
noncomputable def courseH (w : Wt) (s : Int) : Prop := courseG w s 87 w.dh
noncomputable def courseL (w : Wt) (s : Int) : Prop := courseG w s 88 w.dl
noncomputable def hasG (n : Nat) (L : Nat → Int) (y h t : Int) : Prop := funS Try.prog csY (fun _ => none) 74 [courseV n L y, i6 h, i6 t] (i6 (L h.toNat + y * t))
end Go.Proofs.Ytoeolgeidpjgbaa

set_option linter.unusedVariables false
namespace Go.Proofs.Ytoeolgeidpjgbaa
open Go Go.Lg
attribute [local irreducible] funS
theorem courseH_vc (w : Wt) (s : Int) : courseH w s =
  ((0 : Nat) < nat_lit 1 ∧ (0 : Nat) < nat_lit 1 ∧ (0 : Int) ≤ (↑w.5 : Int) ∧ (↑w.5 : Int) ≤ (↑w.5 : Int) ∧ (↑w.5 : Int) ≤ (1048576 : Int) ∧ (↑w.5 : Int) * (↑(nat_lit 8) : Int) ≤ (140737488355328 : Int) ∧ (0 : Nat) < nat_lit 1 ∧ ((Int.toNat (0 : Int)).le w.n ∧ s = s - (0 : Int) ∧ Value.func (Fn.func (87 : FuncId)) #[] #[] = Value.func (Fn.func (87 : FuncId)) #[] #[] ∧ (0 : Nat) = (0 : Nat) ∧ (0 : Nat) = (0 : Nat) ∧ (0 : Nat) = (0 : Nat) ∧ (0 : Nat) = (0 : Nat) ∧ (0 : Nat) = (0 : Nat) ∧ (0 : Nat) = (0 : Nat) ∧ w.5 = w.5 ∧ (∀ (i : Nat), i < w.5 → ((fun i => SV.agg [i6 (w.dl i), i6 (w.dh i)]) i).den = ((fun i => SV.agg [i6 (w.dl i), i6 (w.dh i)]) i).den ∧ True ∧ True ∧ True) ∧ (↑w.5 : Int) = (↑w.5 : Int) ∧ (0 : Int) = (↑(Int.toNat (0 : Int)) : Int) ∧ w.1 = w.1 ∧ w.2 = w.2 ∧ w.3 = w.3 ∧ w.4 = w.4 ∧ w.5 = w.5 ∧ (∀ (i : Nat), i < w.5 → ((fun i => SV.agg [i6 (w.dl i), i6 (w.dh i)]) i).den = ((fun i => SV.agg [i6 (w.dl i), i6 (w.dh i)]) i).den ∧ True ∧ True ∧ True) ∧ w.8 = w.8 ∧ w.9 = w.9 ∧ w.10 = w.10 ∧ w.11 = w.11 ∧ w.12 = w.12 ∧ Value.slice none (0 : Nat) (0 : Nat) = Value.slice none (0 : Nat) (0 : Nat) ∧ (0 : Int) = (0 : Int) ∧ w.5 = (↑w.5 : Int).toNat ∧ (∀ (i : Nat), i < w.5 → nat_lit 1 = nat_lit 1 ∧ ((0 : Int) = if i < Int.toNat (0 : Int) then s - (tk w.dh i + w.7 i) else (0 : Int)) ∧ True) ∧ (0 : Nat) = (0 : Nat) ∧ (↑w.5 : Int).toNat = w.5 ∧ w.10 = w.10 ∧ True) ∧ ∀ (z : Nat), z.le w.n → ((↑z : Int) < (↑w.5 : Int) → (0 : Int) ≤ (↑z : Int) ∧ (↑z : Int) < (↑w.5 : Int) ∧ (0 : Nat) < nat_lit 1 ∧ ((-9223372036854775808 : Int) ≤ s - tk w.dh z - w.7 (↑z : Int).toNat ∧ s - tk w.dh z - w.7 (↑z : Int).toNat ≤ (9223372036854775807 : Int)) ∧ (0 : Nat) < nat_lit 1 ∧ (0 : Int) ≤ (↑z : Int) ∧ (↑z : Int) < (↑w.5 : Int) ∧ (0 : Nat) + nat_lit 1 ≤ nat_lit 1 ∧ (0 : Nat) + (↑z : Int).toNat < w.5 ∧ (∀ (i' : Nat), true = true) ∧ ((-9223372036854775808 : Int) ≤ (↑z : Int) + (1 : Int) ∧ (↑z : Int) + (1 : Int) ≤ (9223372036854775807 : Int)) ∧ ((↑z : Int) + (1 : Int)).toNat.le w.n ∧ w.5 - ((↑z : Int) + (1 : Int)).toNat < w.5 - z ∧ s - tk w.dh z - w.7 (↑z : Int).toNat = s - (tk w.dh z + w.7 z) ∧ Value.func (Fn.func (87 : FuncId)) #[] #[] = Value.func (Fn.func (87 : FuncId)) #[] #[] ∧ (0 : Nat) = (0 : Nat) ∧ (0 : Nat) = (0 : Nat) ∧ (0 : Nat) = (0 : Nat) ∧ (0 : Nat) = (0 : Nat) ∧ (0 : Nat) = (0 : Nat) ∧ (0 : Nat) = (0 : Nat) ∧ w.5 = w.5 ∧ (∀ (i : Nat), i < w.5 → ((fun i => SV.agg [i6 (w.dl i), i6 (w.dh i)]) i).den = ((fun i => SV.agg [i6 (w.dl i), i6 (w.dh i)]) i).den ∧ True ∧ True ∧ True) ∧ (↑w.5 : Int) = (↑w.5 : Int) ∧ (↑z : Int) + (1 : Int) = (↑((↑z : Int) + (1 : Int)).toNat : Int) ∧ w.1 = w.1 ∧ w.2 = w.2 ∧ w.3 = w.3 ∧ w.4 = w.4 ∧ w.5 = w.5 ∧ (∀ (i : Nat), i < w.5 → ((fun i => SV.agg [i6 (w.dl i), i6 (w.dh i)]) i).den = ((fun i => SV.agg [i6 (w.dl i), i6 (w.dh i)]) i).den ∧ True ∧ True ∧ True) ∧ w.8 = w.8 ∧ w.9 = w.9 ∧ w.10 = w.10 ∧ w.11 = w.11 ∧ w.12 = w.12 ∧ Value.slice none (0 : Nat) (0 : Nat) = Value.slice none (0 : Nat) (0 : Nat) ∧ (0 : Int) = (0 : Int) ∧ w.5 = w.5 ∧ (∀ (i : Nat), i < w.5 → nat_lit 1 = nat_lit 1 ∧ ((if i = (0 : Nat) + (↑z : Int).toNat then s - tk w.dh z - w.7 (↑z : Int).toNat else if i < z then s - (tk w.dh i + w.7 i) else (0 : Int)) = if i < ((↑z : Int) + (1 : Int)).toNat then s - (tk w.dh i + w.7 i) else (0 : Int)) ∧ True) ∧ (0 : Nat) = (0 : Nat) ∧ w.5 = w.5 ∧ w.10 = w.10 ∧ True) ∧ (¬(↑z : Int) < (↑w.5 : Int) → (0 : Nat) < nat_lit 1 ∧ (0 : Nat) < nat_lit 1 ∧ w.5 = w.5 ∧ (0 : Nat) + w.5 ≤ w.5 ∧ (∀ (i : Nat), i < w.5 → nat_lit 1 = (1 : Nat) ∧ nat_lit 1 = (1 : Nat) ∧ (if i + (0 : Nat) < z then s - (tk w.dh i + w.7 i) else (0 : Int)) = s - (tk w.dh i + w.7 i) ∧ True) ∧ w.10 = w.10 ∧ True)) := by kernel_rfl
theorem courseL_vc (w : Wt) (s : Int) : courseL w s =
  ((0 : Nat) < nat_lit 1 ∧ (0 : Nat) < nat_lit 1 ∧ (0 : Int) ≤ (↑w.5 : Int) ∧ (↑w.5 : Int) ≤ (↑w.5 : Int) ∧ (↑w.5 : Int) ≤ (1048576 : Int) ∧ (↑w.5 : Int) * (↑(nat_lit 8) : Int) ≤ (140737488355328 : Int) ∧ (0 : Nat) < nat_lit 1 ∧ ((Int.toNat (0 : Int)).le w.n ∧ s = s - (0 : Int) ∧ Value.func (Fn.func (88 : FuncId)) #[] #[] = Value.func (Fn.func (88 : FuncId)) #[] #[] ∧ (0 : Nat) = (0 : Nat) ∧ (0 : Nat) = (0 : Nat) ∧ (0 : Nat) = (0 : Nat) ∧ (0 : Nat) = (0 : Nat) ∧ (0 : Nat) = (0 : Nat) ∧ (0 : Nat) = (0 : Nat) ∧ w.5 = w.5 ∧ (∀ (i : Nat), i < w.5 → ((fun i => SV.agg [i6 (w.dl i), i6 (w.dh i)]) i).den = ((fun i => SV.agg [i6 (w.dl i), i6 (w.dh i)]) i).den ∧ True ∧ True ∧ True) ∧ (↑w.5 : Int) = (↑w.5 : Int) ∧ (0 : Int) = (↑(Int.toNat (0 : Int)) : Int) ∧ w.1 = w.1 ∧ w.2 = w.2 ∧ w.3 = w.3 ∧ w.4 = w.4 ∧ w.5 = w.5 ∧ (∀ (i : Nat), i < w.5 → ((fun i => SV.agg [i6 (w.dl i), i6 (w.dh i)]) i).den = ((fun i => SV.agg [i6 (w.dl i), i6 (w.dh i)]) i).den ∧ True ∧ True ∧ True) ∧ w.8 = w.8 ∧ w.9 = w.9 ∧ w.10 = w.10 ∧ w.11 = w.11 ∧ w.12 = w.12 ∧ Value.slice none (0 : Nat) (0 : Nat) = Value.slice none (0 : Nat) (0 : Nat) ∧ (0 : Int) = (0 : Int) ∧ w.5 = (↑w.5 : Int).toNat ∧ (∀ (i : Nat), i < w.5 → nat_lit 1 = nat_lit 1 ∧ ((0 : Int) = if i < Int.toNat (0 : Int) then s - (tk w.dl i + w.6 i) else (0 : Int)) ∧ True) ∧ (0 : Nat) = (0 : Nat) ∧ (↑w.5 : Int).toNat = w.5 ∧ w.10 = w.10 ∧ True) ∧ ∀ (z : Nat), z.le w.n → ((↑z : Int) < (↑w.5 : Int) → (0 : Int) ≤ (↑z : Int) ∧ (↑z : Int) < (↑w.5 : Int) ∧ (0 : Nat) < nat_lit 1 ∧ ((-9223372036854775808 : Int) ≤ s - tk w.dl z - w.6 (↑z : Int).toNat ∧ s - tk w.dl z - w.6 (↑z : Int).toNat ≤ (9223372036854775807 : Int)) ∧ (0 : Nat) < nat_lit 1 ∧ (0 : Int) ≤ (↑z : Int) ∧ (↑z : Int) < (↑w.5 : Int) ∧ (0 : Nat) + nat_lit 1 ≤ nat_lit 1 ∧ (0 : Nat) + (↑z : Int).toNat < w.5 ∧ (∀ (i' : Nat), true = true) ∧ ((-9223372036854775808 : Int) ≤ (↑z : Int) + (1 : Int) ∧ (↑z : Int) + (1 : Int) ≤ (9223372036854775807 : Int)) ∧ ((↑z : Int) + (1 : Int)).toNat.le w.n ∧ w.5 - ((↑z : Int) + (1 : Int)).toNat < w.5 - z ∧ s - tk w.dl z - w.6 (↑z : Int).toNat = s - (tk w.dl z + w.6 z) ∧ Value.func (Fn.func (88 : FuncId)) #[] #[] = Value.func (Fn.func (88 : FuncId)) #[] #[] ∧ (0 : Nat) = (0 : Nat) ∧ (0 : Nat) = (0 : Nat) ∧ (0 : Nat) = (0 : Nat) ∧ (0 : Nat) = (0 : Nat) ∧ (0 : Nat) = (0 : Nat) ∧ (0 : Nat) = (0 : Nat) ∧ w.5 = w.5 ∧ (∀ (i : Nat), i < w.5 → ((fun i => SV.agg [i6 (w.dl i), i6 (w.dh i)]) i).den = ((fun i => SV.agg [i6 (w.dl i), i6 (w.dh i)]) i).den ∧ True ∧ True ∧ True) ∧ (↑w.5 : Int) = (↑w.5 : Int) ∧ (↑z : Int) + (1 : Int) = (↑((↑z : Int) + (1 : Int)).toNat : Int) ∧ w.1 = w.1 ∧ w.2 = w.2 ∧ w.3 = w.3 ∧ w.4 = w.4 ∧ w.5 = w.5 ∧ (∀ (i : Nat), i < w.5 → ((fun i => SV.agg [i6 (w.dl i), i6 (w.dh i)]) i).den = ((fun i => SV.agg [i6 (w.dl i), i6 (w.dh i)]) i).den ∧ True ∧ True ∧ True) ∧ w.8 = w.8 ∧ w.9 = w.9 ∧ w.10 = w.10 ∧ w.11 = w.11 ∧ w.12 = w.12 ∧ Value.slice none (0 : Nat) (0 : Nat) = Value.slice none (0 : Nat) (0 : Nat) ∧ (0 : Int) = (0 : Int) ∧ w.5 = w.5 ∧ (∀ (i : Nat), i < w.5 → nat_lit 1 = nat_lit 1 ∧ ((if i = (0 : Nat) + (↑z : Int).toNat then s - tk w.dl z - w.6 (↑z : Int).toNat else if i < z then s - (tk w.dl i + w.6 i) else (0 : Int)) = if i < ((↑z : Int) + (1 : Int)).toNat then s - (tk w.dl i + w.6 i) else (0 : Int)) ∧ True) ∧ (0 : Nat) = (0 : Nat) ∧ w.5 = w.5 ∧ w.10 = w.10 ∧ True) ∧ (¬(↑z : Int) < (↑w.5 : Int) → (0 : Nat) < nat_lit 1 ∧ (0 : Nat) < nat_lit 1 ∧ w.5 = w.5 ∧ (0 : Nat) + w.5 ≤ w.5 ∧ (∀ (i : Nat), i < w.5 → nat_lit 1 = (1 : Nat) ∧ nat_lit 1 = (1 : Nat) ∧ (if i + (0 : Nat) < z then s - (tk w.dl i + w.6 i) else (0 : Int)) = s - (tk w.dl i + w.6 i) ∧ True) ∧ w.10 = w.10 ∧ True)) := by kernel_rfl
theorem has_vc (n : Nat) (L : Nat → Int) (y h t : Int) : hasG n L y h t =
  ((0 : Nat) < nat_lit 1 ∧ (0 : Int) ≤ h ∧ h < (↑n : Int) ∧ (0 : Nat) < nat_lit 1 ∧ ((-9223372036854775808 : Int) ≤ y * t ∧ y * t ≤ (9223372036854775807 : Int)) ∧ ((-9223372036854775808 : Int) ≤ L h.toNat + y * t ∧ L h.toNat + y * t ≤ (9223372036854775807 : Int)) ∧ L h.toNat + y * t = L h.toNat + y * t ∧ True) := by kernel_rfl
theorem courseH_true (w : Wt) (s : Int) (hw : watchP w) (h0 : 0 ≤ s) (h1 : s ≤ 1073741824) : courseH w s := by
  rw [courseH_vc]
  have hn := hw.1.1.2.2.2
  have ht := tk_le (f := w.dh) (n := w.n) fun i hi => by have := hw.2 i hi; unfold okD at this; omega
  simp only [and_true, true_and, Int.toNat_natCast, implies_true, Int.toNat_zero, c0, lit1, and_self, Nat.zero_add, Nat.add_zero, Nat.not_lt_zero, if_false]
  refine ⟨by omega, by omega, by omega, by omega, ⟨Nat.zero_le _, by omega⟩, fun z hz => ⟨fun hlt => ?_, fun hge => ?_⟩⟩
  · have hz : z ≤ w.n := hz
    have e : ((z : Int) + 1).toNat = z + 1 := by omega
    have a1 := ht z hz
    have a2 := hw.2 z (by omega)
    unfold okD at a2
    rw [e]
    refine ⟨by omega, hlt, by omega, by omega, hlt, by omega, by omega, by omega, (show z + 1 ≤ w.n by omega), by omega, by omega, by omega, fun i hi => ?_⟩
    by_cases c1 : i = z
    · subst c1
      simp only [if_true, Nat.lt_succ_self]; omega
    · by_cases c2 : i < z
      · have : i < z + 1 := by omega
        simp only [c1, c2, this, if_true, if_false]
      · have : ¬ i < z + 1 := by omega
        simp only [c1, c2, this, if_false]
  · have hz : z ≤ w.n := hz
    have : z = w.n := by omega
    subst this
    exact ⟨Nat.le_refl _, fun i hi => by simp only [hi, if_true]⟩
theorem courseL_true (w : Wt) (s : Int) (hw : watchP w) (h0 : 0 ≤ s) (h1 : s ≤ 1073741824) : courseL w s := by
  rw [courseL_vc]
  have hn := hw.1.1.2.2.2
  have ht := tk_le (f := w.dl) (n := w.n) fun i hi => by have := hw.2 i hi; unfold okD at this; omega
  simp only [and_true, true_and, Int.toNat_natCast, implies_true, Int.toNat_zero, c0, lit1, and_self, Nat.zero_add, Nat.add_zero, Nat.not_lt_zero, if_false]
  refine ⟨by omega, by omega, by omega, by omega, ⟨Nat.zero_le _, by omega⟩, fun z hz => ⟨fun hlt => ?_, fun hge => ?_⟩⟩
  · have hz : z ≤ w.n := hz
    have e : ((z : Int) + 1).toNat = z + 1 := by omega
    have a1 := ht z hz
    have a2 := hw.2 z (by omega)
    unfold okD at a2
    rw [e]
    refine ⟨by omega, hlt, by omega, by omega, hlt, by omega, by omega, by omega, (show z + 1 ≤ w.n by omega), by omega, by omega, by omega, fun i hi => ?_⟩
    by_cases c1 : i = z
    · subst c1
      simp only [if_true, Nat.lt_succ_self]; omega
    · by_cases c2 : i < z
      · have : i < z + 1 := by omega
        simp only [c1, c2, this, if_true, if_false]
      · have : ¬ i < z + 1 := by omega
        simp only [c1, c2, this, if_false]
  · have hz : z ≤ w.n := hz
    have : z = w.n := by omega
    subst this
    exact ⟨Nat.le_refl _, fun i hi => by simp only [hi, if_true]⟩
end Go.Proofs.Ytoeolgeidpjgbaa

set_option linter.unusedVariables false
namespace Go.Proofs.Ytoeolgeidpjgbaa
open Go Go.Lg
attribute [local irreducible] funS
def j64 (z : Int) : Prop := (-9223372036854775808 : Int) ≤ z ∧ z ≤ (9223372036854775807 : Int)
def gOf : SV → Nat
  | .val (.func (.func g) _ _) => g
  | _ => 0
def selF (w : Wt) (g : Nat) : Nat → Int := match Nat.beq g 87 with
  | true => w.dh
  | false => w.dl
def newC : Ctr := wC 86 fun w r k => match r with
  | [.int .i64 s, x] => (watchP w ∧ 0 ≤ s ∧ s ≤ 1073741824) ∧ x = fv (gOf x) ∧ (gOf x = 87 ∨ gOf x = 88) ∧ k (courseV w.n (fun j => s - tk (selF w (gOf x)) (j + 1)) w.yield)
  | _ => False
theorem new_okF : newC.OkF Try.prog := wC_okF (by kernel_rfl) fun w r k hk => by
  split at hk
  · rename_i s x
    obtain ⟨⟨hw, h0, h1⟩, hx, hg, hk⟩ := hk
    generalize gOf x = g at hx hg hk
    subst hx
    rcases hg with rfl | rfl
    · have hh := courseH_true w s hw h0 h1
      unfold courseH courseG at hh
      exact ⟨_, funS_does csY_sound mixed hh, hk⟩
    · have hh := courseL_true w s hw h0 h1
      unfold courseL courseG at hh
      exact ⟨_, funS_does csY_sound mixed hh, hk⟩
  · exact hk.elim
def cN (x : SV) : Nat := lenS (nth' (cells' x) 0)
def cL (x : SV) : Nat → Int := fun j => prI (eltS (nth' (cells' x) 0) j)
def cY (x : SV) : Int := prI (nth' (cells' x) 1)
def hasC : Ctr := ⟨74, fun args k => match args with
  | [x, .int .i64 h, .int .i64 t] => x = courseV (cN x) (cL x) (cY x) ∧ (0 ≤ h ∧ h < cN x ∧ j64 (cY x * t) ∧ j64 (cL x h.toNat + cY x * t)) ∧ k (i6 (cL x h.toNat + cY x * t))
  | _ => False⟩
theorem has_okF : hasC.OkF Try.prog := by
  refine ⟨by kernel_rfl, fun args k hk => ?_⟩
  simp only [hasC] at hk
  split at hk
  · rename_i x h t
    obtain ⟨hx, ⟨h1, h2, h3, h4⟩, hk⟩ := hk
    have hh : hasG (cN x) (cL x) (cY x) h t := by
      rw [has_vc]
      simp only [lit1, true_and, and_true]
      exact ⟨h1, h2, h3, h4⟩
    unfold hasG at hh
    rw [← hx] at hh
    exact ⟨_, funS_does csY_sound mixed hh, hk⟩
  · exact hk.elim
noncomputable def csZ : CSpec := ctrsF [newC, hasC] csX
theorem csZ_sound : SoundS Try.prog csZ := ctrsF_sound csX_sound (by
  intro x hx
  simp only [List.mem_cons, List.not_mem_nil, or_false] at hx
  rcases hx with rfl | rfl
  · exact new_okF
  · exact has_okF)
def lowV (w : Wt) : SV := courseV w.n (fun j => w.s0 - tk w.dh (j + 1)) w.yield
def highV (w : Wt) : SV := courseV w.n (fun j => w.s1 - tk w.dl (j + 1)) w.yield
noncomputable def lowestG (w : Wt) : Prop := funS Try.prog csZ (fun _ => none) 73 [w.sv] (lowV w)
noncomputable def highestG (w : Wt) : Prop := funS Try.prog csZ (fun _ => none) 75 [w.sv] (highV w)
def keepV (w : Wt) : SV := .agg [i6 w.full, i6 w.least, i6 w.s0, i6 w.s1, .lst 2 w.n (fun i => .agg [i6 (w.dl i), i6 (w.dh i)]), i6 w.ret, i6 w.lit, i6 w.yield, i6 w.coal, i6 w.light, .clo (.func 74) [lowV w] [], .clo (.func 74) [highV w] []]
def lowC : Ctr := wC 73 fun w r k => match r with
  | [] => watchP w ∧ k (lowV w)
  | _ => False
def highC : Ctr := wC 75 fun w r k => match r with
  | [] => watchP w ∧ k (highV w)
  | _ => False
noncomputable def csK : CSpec := ctrsF [lowC, highC] csX
noncomputable def keepG (w : Wt) : Prop := funS Try.prog csK (fun _ => none) 51 [w.sv] (keepV w)
def aLo (w : Wt) (h t : Int) : Int := w.s0 - tk w.dh (h.toNat + 1) + w.yield * t
def aHi (w : Wt) (h t : Int) : Int := w.s1 - tk w.dl (h.toNat + 1) + w.yield * t
noncomputable def afterK (w : Wt) (h t x y e : Int) : Prop := funS Try.prog csZ (fun _ => none) 76 [keepV w, i6 h, i6 t] (.tup [.agg [i6 x, i6 y], i6 e])
end Go.Proofs.Ytoeolgeidpjgbaa
