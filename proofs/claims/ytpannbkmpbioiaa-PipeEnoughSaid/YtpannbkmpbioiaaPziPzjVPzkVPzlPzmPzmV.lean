import Derived.Test.YtpannbkmpbioiaaPzdVPzeVPzgPzfVPzh
set_option linter.unusedVariables false
set_option linter.unusedSimpArgs false
set_option maxRecDepth 100000
namespace Go.Proofs.Ytpannbkmpbioiaa
open Go Go.Lg
attribute [local irreducible] bodyH
noncomputable def witG (w : Nw) (b : Nat) : Prop := funH Try.prog (ctrs [hasC]) noX (ictrs []) (oneL 0 { toLSpec := {
    σ := Nat, inv := fun z => z ≤ w.m.n, μ := fun z => w.m.n - z, nr := 3
    ms := fun _ X => match X.row 2 with
      | some R => (match R.f 0 with
        | .agg [_, _, _, .sl r _ _] => [some r]
        | _ => [])
      | none => []
    t := fun z => mkF 37 [(1, i6 b), (2, .ptr 0 0 0), (4, .ptr 1 0 0), (5, .ptr 2 0 0), (6, i6 z)]
    X := fun z => mkX [vr 4 w.sv, vr 4 (.agg [i6 0, i6 0, nilS, nilS]), vr 4 (.agg [i6 w.s0, i6 w.s1, w.j.sv, .sl 3 0 w.m.n]), rw' 4 w.m.n fun k => .agg [i6 (w.m.fr k), i6 ((wL w fun i => i < z ∧ hs b i).m.dr k), i6 (w.m.va k), i6 (w.m.co k)]]
    rd := fun _ _ k => ∃ z, k z
    rdOK := fun _ _ _ h => h } }) noL 28 [w.sv, i6 b] (wL w (cut (hs b))).sv
noncomputable def witC : Ctr := netC 28 fun w r k => match r with
  | [.int .i64 b] => (0 ≤ b ∧ b ≤ 1099511627776) ∧ w.m.n ≤ 8 ∧ d5 w.m ∧ k (wL w (cut (hs b.toNat))).sv
  | _ => False
def erP (w : Nw) (b : Nat) : Prop := FtER (wL w (cut (hs b))) = 4
def li (n : Nat) (f : Nat → Int) : SV := .lst 1 n fun k => i6 (f k)
noncomputable def itsG (n n' : Nat) (f f' : Nat → Int) : Prop := funH Try.prog (ctrs []) noX (ictrs []) (oneL 0 (natH (fun z => z ≤ n ∧ ∀ i, i < z → f i = f' i) (fun z => n - z) 0
  (fun z => mkF 26 [(0, li n f), (1, li n' f'), (5, i6 z)]) (fun _ => mkX []) fun _ => none)) noL 22 [li n f, li n' f'] (.dec (n = n' ∧ ∀ i, i < n → f i = f' i) (Classical.propDecidable _))
end Go.Proofs.Ytpannbkmpbioiaa

set_option maxRecDepth 100000
namespace Go.Proofs.Ytpannbkmpbioiaa
open Go Go.Lg
theorem witG_vc (w : Nw) (b : Nat) : witG w b = ((0 : Nat) < (1 : Nat) ∧ (0 : Nat) < (1 : Nat) ∧ (∀ (i : Nat), i < w.m.1 → true = true) ∧ (0 : Nat) = (0 : Nat) ∧ (0 : Nat) = (0 : Nat) ∧ (∀ (i : Nat), true = true) ∧ ((0 : Nat) + w.m.1) * (32 : Nat) ≤ (140737488355328 : Nat) ∧ (0 : Nat) + w.m.1 ≤ (4611686018427387904 : Nat) ∧ (∃ (z : Nat), z ≤ w.m.1 ∧ (↑b : Int) = (↑b : Int) ∧ (0 : Nat) = (0 : Nat) ∧ (0 : Nat) = (0 : Nat) ∧ (0 : Nat) = (0 : Nat) ∧ (0 : Nat) = (0 : Nat) ∧ (0 : Nat) = (0 : Nat) ∧ (0 : Nat) = (0 : Nat) ∧ (0 : Int) = (↑z : Int) ∧ w.1 = w.1 ∧ w.2 = w.2 ∧ w.j.1 = w.j.1 ∧ (∀ (i : Nat), i < w.j.1 → (SV.agg [i6 (w.j.nl i), i6 (w.j.nh i), i6 (w.j.le i), i6 (w.j.mo i), i6 (w.j.go i)]).den = (SV.agg [i6 (w.j.nl i), i6 (w.j.nh i), i6 (w.j.le i), i6 (w.j.mo i), i6 (w.j.go i)]).den ∧ True ∧ True ∧ True ∧ True ∧ True ∧ True) ∧ w.m.1 = w.m.1 ∧ (∀ (i : Nat), i < w.m.1 → (SV.agg [i6 (w.m.fr i), i6 (w.m.dr i), i6 (w.m.va i), i6 (w.m.co i)]).den = (SV.agg [i6 (w.m.fr i), i6 (w.m.dr i), i6 (w.m.va i), i6 (w.m.co i)]).den ∧ True ∧ True ∧ True ∧ True ∧ True) ∧ (0 : Int) = (0 : Int) ∧ (0 : Int) = (0 : Int) ∧ Value.slice none (0 : Nat) (0 : Nat) = Value.slice none (0 : Nat) (0 : Nat) ∧ Value.slice none (0 : Nat) (0 : Nat) = Value.slice none (0 : Nat) (0 : Nat) ∧ w.1 = w.1 ∧ w.2 = w.2 ∧ w.j.1 = w.j.1 ∧ (∀ (i : Nat), i < w.j.1 → (SV.agg [i6 (w.j.nl i), i6 (w.j.nh i), i6 (w.j.le i), i6 (w.j.mo i), i6 (w.j.go i)]).den = (SV.agg [i6 (w.j.nl i), i6 (w.j.nh i), i6 (w.j.le i), i6 (w.j.mo i), i6 (w.j.go i)]).den ∧ True ∧ True ∧ True ∧ True ∧ True ∧ True) ∧ (0 : Nat) = (0 : Nat) ∧ (0 : Nat) + w.m.1 = w.m.1 ∧ w.m.1 = (0 : Nat) + w.m.1 ∧ (∀ (i : Nat), i < w.m.1 → (4 : Nat) = (4 : Nat) ∧ (if i < (0 : Nat) then (0 : Int) else w.m.2 (i - (0 : Nat))) = w.m.2 i ∧ (if i < (0 : Nat) then (0 : Int)
 else w.m.3 (i - (0 : Nat))) = drP (i < z ∧ hs b i) (w.m.3 i) ∧ (if i < (0 : Nat) then (0 : Int) else w.m.4 (i - (0 : Nat))) = w.m.4 i ∧ (if i < (0 : Nat) then (0 : Int) else w.m.5 (i - (0 : Nat))) = w.m.5 i ∧ True) ∧ True) ∧ ∀ (z : Nat), z ≤ w.m.1 → (0 : Nat) < (1 : Nat) ∧ ((↑z : Int) < (↑w.m.1 : Int) → (((0 : Int) ≤ (↑b : Int) ∧ (↑b : Int) ≤ (1099511627776 : Int)) ∧ (0 : Int) ≤ (↑z : Int) ∧ (↑z : Int) ≤ (40 : Int)) ∧ (hs (↑b : Int).toNat (↑z : Int).toNat → (0 : Nat) < (1 : Nat) ∧ (0 : Nat) < (1 : Nat) ∧ (0 : Int) ≤ (↑z : Int) ∧ (↑z : Int) < (↑w.m.1 : Int) ∧ (0 : Nat) + (↑z : Int).toNat < w.m.1 ∧ ((-9223372036854775808 : Int) ≤ drP ((0 : Nat) + (↑z : Int).toNat < z ∧ hs b ((0 : Nat) + (↑z : Int).toNat)) (w.m.3 ((0 : Nat) + (↑z : Int).toNat)) + (1 : Int) ∧ drP ((0 : Nat) + (↑z : Int).toNat < z ∧ hs b ((0 : Nat) + (↑z : Int).toNat)) (w.m.3 ((0 : Nat) + (↑z : Int).toNat)) + (1 : Int) ≤ (9223372036854775807 : Int)) ∧ ((2 : Int) = (0 : Int) → False) ∧ ((-9223372036854775808 : Int) ≤ (drP ((0 : Nat) + (↑z : Int).toNat < z ∧ hs b ((0 : Nat) + (↑z : Int).toNat)) (w.m.3 ((0 : Nat) + (↑z : Int).toNat)) + (1 : Int)).tdiv (2 : Int) ∧ (drP ((0 : Nat) + (↑z : Int).toNat < z ∧ hs b ((0 : Nat) + (↑z : Int).toNat)) (w.m.3 ((0 : Nat) + (↑z : Int).toNat)) + (1 : Int)).tdiv (2 : Int) ≤ (9223372036854775807 : Int)) ∧ (0 : Int) ≤ (↑z : Int) ∧ (↑z : Int) < (↑w.m.1 : Int) ∧ (1 : Nat) + (1 : Nat) ≤ (4 : Nat) ∧ (0 : Nat) + (↑z : Int).toNat < w.m.1 ∧ (∀ (i' : Nat), true = true) ∧ ((-9223372036854775808 : Int) ≤ (↑z : Int) + (1 : Int) ∧ (↑z : Int) + (1 : Int) ≤ (9223372036854775807 : Int)) ∧ ∃ (z_1 : Nat), z_1 ≤ w.m.1 ∧ w.m.1 - z_1 < w.m.1 - z ∧ (↑b : Int) = (↑b : Int) ∧ (0 : Nat) = (0 : Nat) ∧ (0 : Nat) = (0 : Nat) ∧ (0 : Nat) = (0 : Nat) ∧ (0 : Nat) = (0 : Nat) ∧ (0 : Nat) = (0 : Nat) ∧
 (0 : Nat) = (0 : Nat) ∧ (↑z : Int) + (1 : Int) = (↑z_1 : Int) ∧ w.1 = w.1 ∧ w.2 = w.2 ∧ w.j.1 = w.j.1 ∧ (∀ (i : Nat), i < w.j.1 → (SV.agg [i6 (w.j.nl i), i6 (w.j.nh i), i6 (w.j.le i), i6 (w.j.mo i), i6 (w.j.go i)]).den = (SV.agg [i6 (w.j.nl i), i6 (w.j.nh i), i6 (w.j.le i), i6 (w.j.mo i), i6 (w.j.go i)]).den ∧ True ∧ True ∧ True ∧ True ∧ True ∧ True) ∧ w.m.1 = w.m.1 ∧ (∀ (i : Nat), i < w.m.1 → (SV.agg [i6 (w.m.fr i), i6 (w.m.dr i), i6 (w.m.va i), i6 (w.m.co i)]).den = (SV.agg [i6 (w.m.fr i), i6 (w.m.dr i), i6 (w.m.va i), i6 (w.m.co i)]).den ∧ True ∧ True ∧ True ∧ True ∧ True) ∧ (0 : Int) = (0 : Int) ∧ (0 : Int) = (0 : Int) ∧ Value.slice none (0 : Nat) (0 : Nat) = Value.slice none (0 : Nat) (0 : Nat) ∧ Value.slice none (0 : Nat) (0 : Nat) = Value.slice none (0 : Nat) (0 : Nat) ∧ w.1 = w.1 ∧ w.2 = w.2 ∧ w.j.1 = w.j.1 ∧ (∀ (i : Nat), i < w.j.1 → (SV.agg [i6 (w.j.nl i), i6 (w.j.nh i), i6 (w.j.le i), i6 (w.j.mo i), i6 (w.j.go i)]).den = (SV.agg [i6 (w.j.nl i), i6 (w.j.nh i), i6 (w.j.le i), i6 (w.j.mo i), i6 (w.j.go i)]).den ∧ True ∧ True ∧ True ∧ True ∧ True ∧ True) ∧ (0 : Nat) = (0 : Nat) ∧ w.m.1 = w.m.1 ∧ w.m.1 = w.m.1 ∧ (∀ (i : Nat), i < w.m.1 → (4 : Nat) = (4 : Nat) ∧ (if i = (0 : Nat) + (↑z : Int).toNat then w.m.2 i else w.m.2 i) = w.m.2 i ∧ (if i = (0 : Nat) + (↑z : Int).toNat then (drP ((0 : Nat) + (↑z : Int).toNat < z ∧ hs b ((0 : Nat) + (↑z : Int).toNat)) (w.m.3 ((0 : Nat) + (↑z : Int).toNat)) + (1 : Int)).tdiv (2 : Int) else drP (i < z ∧ hs b i) (w.m.3 i)) = drP (i < z_1 ∧ hs b i) (w.m.3 i) ∧ (if i = (0 : Nat) + (↑z : Int).toNat then w.m.4 i else w.m.4 i) = w.m.4 i ∧ (if i = (0 : Nat) + (↑z : Int).toNat then w.m.5 i else w.m.5 i) = w.m.5 i ∧ True) ∧ True) ∧ (¬hs (↑b : Int).toNat (↑z : Int).toNat → ((-9223372036854775808 : Int) ≤ (↑z : Int) + (1 : Int) ∧
 (↑z : Int) + (1 : Int) ≤ (9223372036854775807 : Int)) ∧ ∃ (z_1 : Nat), z_1 ≤ w.m.1 ∧ w.m.1 - z_1 < w.m.1 - z ∧ (↑b : Int) = (↑b : Int) ∧ (0 : Nat) = (0 : Nat) ∧ (0 : Nat) = (0 : Nat) ∧ (0 : Nat) = (0 : Nat) ∧ (0 : Nat) = (0 : Nat) ∧ (0 : Nat) = (0 : Nat) ∧ (0 : Nat) = (0 : Nat) ∧ (↑z : Int) + (1 : Int) = (↑z_1 : Int) ∧ w.1 = w.1 ∧ w.2 = w.2 ∧ w.j.1 = w.j.1 ∧ (∀ (i : Nat), i < w.j.1 → (SV.agg [i6 (w.j.nl i), i6 (w.j.nh i), i6 (w.j.le i), i6 (w.j.mo i), i6 (w.j.go i)]).den = (SV.agg [i6 (w.j.nl i), i6 (w.j.nh i), i6 (w.j.le i), i6 (w.j.mo i), i6 (w.j.go i)]).den ∧ True ∧ True ∧ True ∧ True ∧ True ∧ True) ∧ w.m.1 = w.m.1 ∧ (∀ (i : Nat), i < w.m.1 → (SV.agg [i6 (w.m.fr i), i6 (w.m.dr i), i6 (w.m.va i), i6 (w.m.co i)]).den = (SV.agg [i6 (w.m.fr i), i6 (w.m.dr i), i6 (w.m.va i), i6 (w.m.co i)]).den ∧ True ∧ True ∧ True ∧ True ∧ True) ∧ (0 : Int) = (0 : Int) ∧ (0 : Int) = (0 : Int) ∧ Value.slice none (0 : Nat) (0 : Nat) = Value.slice none (0 : Nat) (0 : Nat) ∧ Value.slice none (0 : Nat) (0 : Nat) = Value.slice none (0 : Nat) (0 : Nat) ∧ w.1 = w.1 ∧ w.2 = w.2 ∧ w.j.1 = w.j.1 ∧ (∀ (i : Nat), i < w.j.1 → (SV.agg [i6 (w.j.nl i), i6 (w.j.nh i), i6 (w.j.le i), i6 (w.j.mo i), i6 (w.j.go i)]).den = (SV.agg [i6 (w.j.nl i), i6 (w.j.nh i), i6 (w.j.le i), i6 (w.j.mo i), i6 (w.j.go i)]).den ∧ True ∧ True ∧ True ∧ True ∧ True ∧ True) ∧ (0 : Nat) = (0 : Nat) ∧ w.m.1 = w.m.1 ∧ w.m.1 = w.m.1 ∧ (∀ (i : Nat), i < w.m.1 → (4 : Nat) = (4 : Nat) ∧ w.m.2 i = w.m.2 i ∧ drP (i < z ∧ hs b i) (w.m.3 i) = drP (i < z_1 ∧ hs b i) (w.m.3 i) ∧ w.m.4 i = w.m.4 i ∧ w.m.5 i = w.m.5 i ∧ True) ∧ True)) ∧ (¬(↑z : Int) < (↑w.m.1 : Int) → (0 : Nat) < (1 : Nat) ∧ (0 : Nat) < (1 : Nat) ∧ w.1 = w.1 ∧ w.2 = w.2 ∧ w.j.1 = (wL w (cut (hs b))).j.1 ∧ (∀ (i : Nat), i < (wL w (cut (hs b))).j.1 → (SV.agg
 [i6 (w.j.nl i), i6 (w.j.nh i), i6 (w.j.le i), i6 (w.j.mo i), i6 (w.j.go i)]).den = (SV.agg [i6 ((wL w (cut (hs b))).j.nl i), i6 ((wL w (cut (hs b))).j.nh i), i6 ((wL w (cut (hs b))).j.le i), i6 ((wL w (cut (hs b))).j.mo i), i6 ((wL w (cut (hs b))).j.go i)]).den ∧ True ∧ True ∧ True ∧ True ∧ True ∧ True) ∧ w.m.1 = w.m.1 ∧ (0 : Nat) + w.m.1 ≤ w.m.1 ∧ (∀ (i : Nat), i < w.m.1 → (4 : Nat) = (4 : Nat) ∧ (4 : Nat) = (4 : Nat) ∧ w.m.2 (i + (0 : Nat)) = w.m.2 i ∧ drP (i + (0 : Nat) < z ∧ hs b (i + (0 : Nat))) (w.m.3 (i + (0 : Nat))) = drP (cut (hs b) i) (w.m.3 i) ∧ w.m.4 (i + (0 : Nat)) = w.m.4 i ∧ w.m.5 (i + (0 : Nat)) = w.m.5 i ∧ True) ∧ True)) := by kernel_rfl
theorem itsG_vc (n : Nat) (n' : Nat) (f : Nat → Int) (f' : Nat → Int) : itsG n n' f f' = ((¬(↑n : Int) = (↑n' : Int) → (false = true ↔ n = n' ∧ ∀ (i : Nat), i < n → f i = f' i) ∧ True) ∧ (¬¬(↑n : Int) = (↑n' : Int) → (∃ (z : Nat), (z ≤ n ∧ ∀ (i : Nat), i < z → f i = f' i) ∧ n = n ∧ (∀ (i : Nat), i < n → (i6 (f i)).den = (i6 (f i)).den ∧ True) ∧ n' = n' ∧ (∀ (i : Nat), i < n' → (i6 (f' i)).den = (i6 (f' i)).den ∧ True) ∧ (0 : Int) = (↑z : Int) ∧ True) ∧ ∀ (z : Nat), (z ≤ n ∧ ∀ (i : Nat), i < z → f i = f' i) → ((↑z : Int) < (↑n : Int) → (0 : Int) ≤ (↑z : Int) ∧ (↑z : Int) < (↑n : Int) ∧ (0 : Int) ≤ (↑z : Int) ∧ (↑z : Int) < (↑n' : Int) ∧ (¬f (↑z : Int).toNat = f' (↑z : Int).toNat → (false = true ↔ n = n' ∧ ∀ (i : Nat), i < n → f i = f' i) ∧ True) ∧ (¬¬f (↑z : Int).toNat = f' (↑z : Int).toNat → ((-9223372036854775808 : Int) ≤ (↑z : Int) + (1 : Int) ∧ (↑z : Int) + (1 : Int) ≤ (9223372036854775807 : Int)) ∧ ∃ (z_1 : Nat), (z_1 ≤ n ∧ ∀ (i : Nat), i < z_1 → f i = f' i) ∧ n - z_1 < n - z ∧ n = n ∧ (∀ (i : Nat), i < n → (i6 (f i)).den = (i6 (f i)).den ∧ True) ∧ n' = n' ∧ (∀ (i : Nat), i < n' → (i6 (f' i)).den = (i6 (f' i)).den ∧ True) ∧ (↑z : Int) + (1 : Int) = (↑z_1 : Int) ∧ True)) ∧ (¬(↑z : Int) < (↑n : Int) → (true = true ↔ n = n' ∧ ∀ (i : Nat), i < n → f i = f' i) ∧ True))) := by kernel_rfl
end Go.Proofs.Ytpannbkmpbioiaa

set_option maxRecDepth 100000
namespace Go.Proofs.Ytpannbkmpbioiaa
open Go Go.Lg
end Go.Proofs.Ytpannbkmpbioiaa

set_option maxRecDepth 100000
namespace Go.Proofs.Ytpannbkmpbioiaa
open Go Go.Lg
attribute [local irreducible] funS bodyH
theorem wit_true {w : Nw} {b : Nat} (hb : b ≤ 1099511627776) (hn : w.m.n ≤ 8) (hd : d5 w.m) : witG w b := by
  rw [witG_vc]
  simp only [and_true, true_and, Nat.zero_lt_one, and_self, implies_true, Int.toNat_natCast, Nat.zero_add, Nat.add_zero, Nat.one_mul, Nat.mul_one, Classical.not_not, iff_self, Bool.false_eq_true, ite_self, Nat.sub_zero, Nat.not_lt_zero, if_false]
  have e0 : w.m.1 = w.m.n := rfl
  refine ⟨by omega, by omega, ⟨0, by omega, rfl, fun i _ => (drP_n fun x => by omega).symm⟩, fun z hz => ⟨fun hl => ⟨by omega, fun hp => ?_, fun hp => ?_⟩, fun hl => ?_⟩⟩
  · have hz' : z < w.m.n := by omega
    have h2 := hd z hz'
    have e : drP (z < z ∧ hs b z) (w.m.dr z) = w.m.dr z := drP_n fun x => by omega
    have e2 : ∀ i, i < w.m.n → (if i = z then (w.m.dr z + 1).tdiv 2 else drP (i < z ∧ hs b i) (w.m.dr i)) = drP (i < z + 1 ∧ hs b i) (w.m.dr i) := fun i hi => by
      by_cases ei : i = z
      · subst ei
        rw [if_pos rfl, drP_y ⟨by omega, hp⟩]
      · rw [if_neg ei]
        exact drP_c ⟨fun x => ⟨by omega, x.2⟩, fun x => ⟨by omega, x.2⟩⟩
    have e3 : (w.m.dr z + 1).tdiv 2 = (w.m.dr z + 1) / 2 := Int.tdiv_eq_ediv_of_nonneg (by omega)
    rw [e]
    exact ⟨by omega, hl, hz', by omega, by omega, by rw [e3]; omega, by omega, hl, by omega, hz', by omega, z + 1, by omega, by omega, by omega, e2⟩
  · refine ⟨by omega, z + 1, by omega, by omega, by omega, fun i hi => drP_c ⟨fun x => ⟨by omega, x.2⟩, fun x => ⟨?_, x.2⟩⟩⟩
    by_cases ei : i = z
    · subst ei; exact absurd x.2 hp
    · omega
  · have : z = w.m.n := by omega
    subst this
    exact ⟨rfl, fun i _ => rfl, by omega, fun i hi => drP_c ⟨fun x => ⟨by omega, x.2⟩, fun x => ⟨hi, x.2⟩⟩⟩
theorem cos_y {m : Mn} {p : Nat → Prop} {z : Nat} (h : p z) : cosN m p (z + 1) = cosN m p z + m.co z := by simp only [cosN, if_pos h]
theorem cos_n {m : Mn} {p : Nat → Prop} {z : Nat} (h : ¬ p z) : cosN m p (z + 1) = cosN m p z := by simp only [cosN, if_neg h]; omega
theorem fil_lt (p : Nat → Prop) {k : Nat} (hk : 0 < k) (i : Nat) : (fiL p k).getD i 0 < k := by
  simp only [List.getD]
  cases h : (fiL p k)[i]? with
  | none => simpa using hk
  | some x =>
    have := List.mem_of_getElem? h
    unfold fiL at this
    simp only [List.mem_filter, List.mem_range] at this
    simpa using this.1
theorem fil_ext {p : Nat → Prop} {n : Nat} (h : ∀ k, n ≤ k → ¬ p k) : ∀ m, n ≤ m → fiL p m = fiL p n
  | 0, hm => by have : n = 0 := by omega
                rw [this]
  | m + 1, hm => by
    by_cases e : n = m + 1
    · rw [e]
    · rw [fil_n (h m (by omega))]
      exact fil_ext h m (by omega)
theorem hs_big {b n k : Nat} (hb : b < pw n) (hk : n ≤ k) : ¬ hs b k := by
  rw [hs_tb]
  have : b < 2 ^ k := Nat.lt_of_lt_of_le hb (pw_mono hk)
  rw [Nat.testBit_lt_two_pow this]
  simp
theorem enL_lt (w : Nw) (i : Nat) : (enL w).getD i 0 < pw w.m.n := fil_lt _ (pw_pos _) i
theorem its_true {n n' : Nat} {f f' : Nat → Int} (hn : n ≤ 1000) : itsG n n' f f' := by
  rw [itsG_vc]
  simp only [and_true, true_and, and_self, implies_true, Int.toNat_natCast, Classical.not_not, Bool.false_eq_true, false_iff, true_iff]
  refine ⟨fun h h2 => h (by rw [h2.1]), fun hn' => ⟨⟨0, ⟨by omega, fun i hi => by omega⟩, rfl⟩, fun z hz => ⟨fun hl => ⟨by omega, hl, by omega, by omega, fun h h2 => h (h2.2 z (by omega)), fun h => ⟨by omega, z + 1, ⟨by omega, fun i hi => ?_⟩, by omega, by omega⟩⟩, fun hl => ?_⟩⟩⟩
  · by_cases e : i < z
    · exact hz.2 i e
    · have : i = z := by omega
      subst this; exact h
  · exact ⟨by omega, fun i hi => hz.2 i (by omega)⟩
end Go.Proofs.Ytpannbkmpbioiaa

set_option maxRecDepth 100000
namespace Go.Proofs.Ytpannbkmpbioiaa
open Go Go.Lg
attribute [local irreducible] bodyH
section
attribute [local irreducible] funS
theorem has_cs1 : SoundS Try.prog (ctrs [hasC]) := ctrs_sound (by intro x hx; simp at hx; subst hx; exact has_ok)
theorem wit_does {w : Nw} {b : Nat} (hb : b ≤ 1099511627776) (hn : w.m.n ≤ 8) (hd : d5 w.m) : Does Try.prog 28 false (SV.denL [w.sv, i6 b]) (wL w (cut (hs b))).sv.den := by
  have hh := wit_true hb hn hd
  unfold witG at hh
  exact funH_does has_cs1 nil_x nil_ic mixed hh
end
noncomputable def layCtr (g : FuncId) : Ctr := netC g fun w r k => match r with
  | [] => k (.tup [lstI (laL w), i6 (laC w), i6 (laE w)])
  | _ => False
noncomputable def musCtr (g : FuncId) : Ctr := netC g fun w r k => match r with
  | [] => k (.tup [lstI (muL w), i6 (laE w)])
  | _ => False
end Go.Proofs.Ytpannbkmpbioiaa

set_option maxRecDepth 100000
namespace Go.Proofs.Ytpannbkmpbioiaa
open Go Go.Lg
end Go.Proofs.Ytpannbkmpbioiaa
