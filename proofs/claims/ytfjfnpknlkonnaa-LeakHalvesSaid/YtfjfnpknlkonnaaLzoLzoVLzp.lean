import Derived.Test.YtfjfnpknlkonnaaLzkLzkVLzl
set_option linter.unusedVariables false
set_option linter.unusedSimpArgs false
set_option maxRecDepth 100000
namespace Go.Proofs.Ytfjfnpknlkonnaa
open Go Go.Lg
attribute [local irreducible] bodyH
structure AfP where
  ma : Int
  wr : Int
  cl : Dl
  ho : Dl
  h : Int
  g : Bool
open Classical in
noncomputable def cN (s : Int) : Nat → Nat
  | 0 => 0
  | k + 1 => cN s k + (if hasP s k then 1 else 0)
def AfP.c (p : AfP) : Dl := wiD p.cl p.g (p.ho.su p.h.toNat) (p.ho.ca p.h.toNat)
noncomputable def AfP.s (p : AfP) : Int := suX p.ma p.wr p.c p.ho
noncomputable def AfP.e (p : AfP) : Int := erX p.ma p.wr p.c p.ho
structure AfP.ok (p : AfP) : Prop where
  r : okSR p.ma p.wr p.cl p.ho
  n : p.cl.n < 20
  h : 0 ≤ p.h ∧ p.h < p.ho.n
  c : okD p.cl
  o : okD p.ho
noncomputable def AfP.X (p : AfP) : XS := mkX [vr 4 (sqV p.ma p.wr p.cl p.ho)]
theorem rdAf (a : List SV) (X : XS) (k : AfP → Prop) (h : (match a with
    | [.int .i64 h, .bool g, .ptr 0 0 0] => (match X.row 0 with
      | some R => (match R.f 0 with
        | .agg [.int .i64 ma, .int .i64 wr, .lst 3 n f, .lst 3 n' f'] => k ⟨ma, wr, dlOf n f, dlOf n' f', h, g⟩
        | _ => False)
      | none => False)
    | _ => False)) : ∃ s, k s := by
  split at h
  · split at h
    · split at h
      · exact ⟨_, h⟩
      · exact h.elim
    · exact h.elim
  · exact h.elim
noncomputable def aftC : SCtr where
  f := 29
  p := AfP
  pre := AfP.ok
  X0 := AfP.X
  args := fun p => [i6 p.h, .bool p.g, .ptr 0 0 0]
  res := fun p => .tup [i6 p.s, i6 (cN p.s p.ma.toNat)]
  rd := fun a X k => match a with
    | [.int .i64 h, .bool g, .ptr 0 0 0] => (match X.row 0 with
      | some R => (match R.f 0 with
        | .agg [.int .i64 ma, .int .i64 wr, .lst 3 n f, .lst 3 n' f'] => k ⟨ma, wr, dlOf n f, dlOf n' f', h, g⟩
        | _ => False)
      | none => False)
    | _ => False
  rdOK := rdAf
noncomputable def csF : CSpec := ctrsF [wthC] (ctrs [sspC, hasC])
noncomputable def aftG (p : AfP) : Prop := stH Try.prog csF noX (ictrs []) (oneL 0 (natH (fun z => z ≤ p.ma.toNat) (fun z => p.ma.toNat - z) 1
  (fun z => mkF 45 [(2, .ptr 0 0 0), (8, i6 p.s), (9, i6 p.e), (10, i6 (cN p.s z)), (29, i6 p.ma), (30, i6 z)]) (fun _ => p.X) fun _ => none)) noL 29 p.X [i6 p.h, .bool p.g, .ptr 0 0 0] (.tup [i6 p.s, i6 (cN p.s p.ma.toNat)])
noncomputable def csH : CSpec := ctrsQ [aftC] (ctrs [greC, aliveC, sspC, nextC 17, seC])
noncomputable def halG (ma wr : Int) (cl ho : Dl) (o : Int) : Prop := funH Try.prog csH noX (ictrs []) noL noL 7 [sqV ma wr cl ho, .int .u8 o] (.bool true)
end Go.Proofs.Ytfjfnpknlkonnaa

set_option maxRecDepth 100000
namespace Go.Proofs.Ytfjfnpknlkonnaa
open Go Go.Lg
theorem aftG_vc (p : AfP) : aftG p = ((∀ (i : Nat), i < p.cl.1 → True ∧ True ∧ True ∧ True) ∧ (∀ (i : Nat), i < p.ho.1 → True ∧ True ∧ True ∧ True) ∧ (0 : Nat) < (1 : Nat) ∧ (0 : Nat) < (1 : Nat) ∧ (0 : Nat) < (1 : Nat) ∧ (0 : Int) ≤ p.5 ∧ p.5 < (↑p.ho.1 : Int) ∧ (∀ (i : Nat), i < p.cl.1 → True ∧ True ∧ True ∧ True) ∧ (SV.lst (3 : Nat) p.cl.n fun (k : Nat) => SV.agg [SV.dec (p.cl.g k).p (p.cl.g k).i, i6 (p.cl.su k), i6 (p.cl.ca k)]) = (dlOf p.cl.n fun (k : Nat) => SV.agg [SV.dec (p.cl.g k).p (p.cl.g k).i, i6 (p.cl.su k), i6 (p.cl.ca k)]).sv ∧ p.cl.1 ≤ (1000 : Nat) ∧ (0 : Nat) < (1 : Nat) ∧ (∀ (i : Nat), i < p.cl.1 + (1 : Nat) → True ∧ True ∧ True ∧ True) ∧ (∀ (i : Nat), i < p.ho.1 → True ∧ True ∧ True ∧ True) ∧ (SV.lst (3 : Nat) (wiD (dlOf p.cl.n fun (k : Nat) => SV.agg [SV.dec (p.cl.g k).p (p.cl.g k).i, i6 (p.cl.su k), i6 (p.cl.ca k)]) p.g (p.ho.su p.h.toNat) (p.ho.ca p.h.toNat)).n fun (k : Nat) => SV.agg [SV.dec ((wiD (dlOf p.cl.n fun (k : Nat) => SV.agg [SV.dec (p.cl.g k).p (p.cl.g k).i, i6 (p.cl.su k), i6 (p.cl.ca k)]) p.g (p.ho.su p.h.toNat) (p.ho.ca p.h.toNat)).g k).p ((wiD (dlOf p.cl.n fun (k : Nat) => SV.agg [SV.dec (p.cl.g k).p (p.cl.g k).i, i6 (p.cl.su k), i6 (p.cl.ca k)]) p.g (p.ho.su p.h.toNat) (p.ho.ca p.h.toNat)).g k).i, i6 ((wiD (dlOf p.cl.n fun (k : Nat) => SV.agg [SV.dec (p.cl.g k).p (p.cl.g k).i, i6 (p.cl.su k), i6 (p.cl.ca k)]) p.g (p.ho.su p.h.toNat) (p.ho.ca p.h.toNat)).su k), i6 ((wiD (dlOf p.cl.n fun (k : Nat) => SV.agg [SV.dec (p.cl.g k).p (p.cl.g k).i, i6 (p.cl.su k), i6 (p.cl.ca k)]) p.g (p.ho.su p.h.toNat) (p.ho.ca p.h.toNat)).ca k)]) = (dlOf (wiD (dlOf p.cl.n fun (k : Nat) => SV.agg [SV.dec (p.cl.g k).p (p.cl.g k).i, i6 (p.cl.su k), i6 (p.cl.ca k)]) p.g (p.ho.su p.h.toNat) (p.ho.ca p.h.toNat)).n fun (k : Nat) => SV.agg [SV.dec ((wiD
 (dlOf p.cl.n fun (k : Nat) => SV.agg [SV.dec (p.cl.g k).p (p.cl.g k).i, i6 (p.cl.su k), i6 (p.cl.ca k)]) p.g (p.ho.su p.h.toNat) (p.ho.ca p.h.toNat)).g k).p ((wiD (dlOf p.cl.n fun (k : Nat) => SV.agg [SV.dec (p.cl.g k).p (p.cl.g k).i, i6 (p.cl.su k), i6 (p.cl.ca k)]) p.g (p.ho.su p.h.toNat) (p.ho.ca p.h.toNat)).g k).i, i6 ((wiD (dlOf p.cl.n fun (k : Nat) => SV.agg [SV.dec (p.cl.g k).p (p.cl.g k).i, i6 (p.cl.su k), i6 (p.cl.ca k)]) p.g (p.ho.su p.h.toNat) (p.ho.ca p.h.toNat)).su k), i6 ((wiD (dlOf p.cl.n fun (k : Nat) => SV.agg [SV.dec (p.cl.g k).p (p.cl.g k).i, i6 (p.cl.su k), i6 (p.cl.ca k)]) p.g (p.ho.su p.h.toNat) (p.ho.ca p.h.toNat)).ca k)]).sv ∧ (SV.lst (3 : Nat) p.ho.n fun (k : Nat) => SV.agg [SV.dec (p.ho.g k).p (p.ho.g k).i, i6 (p.ho.su k), i6 (p.ho.ca k)]) = (dlOf p.ho.n fun (k : Nat) => SV.agg [SV.dec (p.ho.g k).p (p.ho.g k).i, i6 (p.ho.su k), i6 (p.ho.ca k)]).sv ∧ (0 : Nat) < (1 : Nat) ∧ (∃ (z : Nat), z ≤ p.1.toNat ∧ (0 : Nat) = (0 : Nat) ∧ (0 : Nat) = (0 : Nat) ∧ suX p.1 p.2 (dlOf (wiD (dlOf p.cl.n fun (k : Nat) => SV.agg [SV.dec (p.cl.g k).p (p.cl.g k).i, i6 (p.cl.su k), i6 (p.cl.ca k)]) p.g (p.ho.su p.h.toNat) (p.ho.ca p.h.toNat)).n fun (k : Nat) => SV.agg [SV.dec ((wiD (dlOf p.cl.n fun (k : Nat) => SV.agg [SV.dec (p.cl.g k).p (p.cl.g k).i, i6 (p.cl.su k), i6 (p.cl.ca k)]) p.g (p.ho.su p.h.toNat) (p.ho.ca p.h.toNat)).g k).p ((wiD (dlOf p.cl.n fun (k : Nat) => SV.agg [SV.dec (p.cl.g k).p (p.cl.g k).i, i6 (p.cl.su k), i6 (p.cl.ca k)]) p.g (p.ho.su p.h.toNat) (p.ho.ca p.h.toNat)).g k).i, i6 ((wiD (dlOf p.cl.n fun (k : Nat) => SV.agg [SV.dec (p.cl.g k).p (p.cl.g k).i, i6 (p.cl.su k), i6 (p.cl.ca k)]) p.g (p.ho.su p.h.toNat) (p.ho.ca p.h.toNat)).su k), i6 ((wiD (dlOf p.cl.n fun (k : Nat) => SV.agg [SV.dec (p.cl.g k).p (p.cl.g k).i, i6 (p.cl.su k),
 i6 (p.cl.ca k)]) p.g (p.ho.su p.h.toNat) (p.ho.ca p.h.toNat)).ca k)]) (dlOf p.ho.n fun (k : Nat) => SV.agg [SV.dec (p.ho.g k).p (p.ho.g k).i, i6 (p.ho.su k), i6 (p.ho.ca k)]) = p.s ∧ erX p.1 p.2 (dlOf (wiD (dlOf p.cl.n fun (k : Nat) => SV.agg [SV.dec (p.cl.g k).p (p.cl.g k).i, i6 (p.cl.su k), i6 (p.cl.ca k)]) p.g (p.ho.su p.h.toNat) (p.ho.ca p.h.toNat)).n fun (k : Nat) => SV.agg [SV.dec ((wiD (dlOf p.cl.n fun (k : Nat) => SV.agg [SV.dec (p.cl.g k).p (p.cl.g k).i, i6 (p.cl.su k), i6 (p.cl.ca k)]) p.g (p.ho.su p.h.toNat) (p.ho.ca p.h.toNat)).g k).p ((wiD (dlOf p.cl.n fun (k : Nat) => SV.agg [SV.dec (p.cl.g k).p (p.cl.g k).i, i6 (p.cl.su k), i6 (p.cl.ca k)]) p.g (p.ho.su p.h.toNat) (p.ho.ca p.h.toNat)).g k).i, i6 ((wiD (dlOf p.cl.n fun (k : Nat) => SV.agg [SV.dec (p.cl.g k).p (p.cl.g k).i, i6 (p.cl.su k), i6 (p.cl.ca k)]) p.g (p.ho.su p.h.toNat) (p.ho.ca p.h.toNat)).su k), i6 ((wiD (dlOf p.cl.n fun (k : Nat) => SV.agg [SV.dec (p.cl.g k).p (p.cl.g k).i, i6 (p.cl.su k), i6 (p.cl.ca k)]) p.g (p.ho.su p.h.toNat) (p.ho.ca p.h.toNat)).ca k)]) (dlOf p.ho.n fun (k : Nat) => SV.agg [SV.dec (p.ho.g k).p (p.ho.g k).i, i6 (p.ho.su k), i6 (p.ho.ca k)]) = p.e ∧ (0 : Int) = (↑(cN p.s z) : Int) ∧ p.1 = p.1 ∧ (0 : Int) = (↑z : Int) ∧ p.1 = p.1 ∧ p.2 = p.2 ∧ p.cl.1 = p.cl.1 ∧ (∀ (i : Nat), i < p.cl.1 → (SV.agg [SV.dec (p.cl.g i).p (p.cl.g i).i, i6 (p.cl.su i), i6 (p.cl.ca i)]).den = (SV.agg [SV.dec (p.cl.g i).p (p.cl.g i).i, i6 (p.cl.su i), i6 (p.cl.ca i)]).den ∧ True ∧ True ∧ True ∧ True) ∧ p.ho.1 = p.ho.1 ∧ (∀ (i : Nat), i < p.ho.1 → (SV.agg [SV.dec (p.ho.g i).p (p.ho.g i).i, i6 (p.ho.su i), i6 (p.ho.ca i)]).den = (SV.agg [SV.dec (p.ho.g i).p (p.ho.g i).i, i6 (p.ho.su i), i6 (p.ho.ca i)]).den ∧ True ∧ True ∧ True ∧ True) ∧ True) ∧ ∀ (z : Nat), z ≤ p.1.toNat → ((↑z : Int) < p.1 →
 (p.e = (0 : Int) → i64P p.s ∧ ((0 : Int) ≤ (↑z : Int) ∧ (↑z : Int) ≤ (12 : Int)) ∧ (hasP p.s (↑z : Int) → ((-9223372036854775808 : Int) ≤ (↑(cN p.s z) : Int) + (1 : Int) ∧ (↑(cN p.s z) : Int) + (1 : Int) ≤ (9223372036854775807 : Int)) ∧ ((-9223372036854775808 : Int) ≤ (↑z : Int) + (1 : Int) ∧ (↑z : Int) + (1 : Int) ≤ (9223372036854775807 : Int)) ∧ ∃ (z_1 : Nat), z_1 ≤ p.1.toNat ∧ p.1.toNat - z_1 < p.1.toNat - z ∧ (0 : Nat) = (0 : Nat) ∧ (0 : Nat) = (0 : Nat) ∧ p.s = p.s ∧ p.e = p.e ∧ (↑(cN p.s z) : Int) + (1 : Int) = (↑(cN p.s z_1) : Int) ∧ p.1 = p.1 ∧ (↑z : Int) + (1 : Int) = (↑z_1 : Int) ∧ p.1 = p.1 ∧ p.2 = p.2 ∧ p.cl.1 = p.cl.1 ∧ (∀ (i : Nat), i < p.cl.1 → (SV.agg [SV.dec (p.cl.g i).p (p.cl.g i).i, i6 (p.cl.su i), i6 (p.cl.ca i)]).den = (SV.agg [SV.dec (p.cl.g i).p (p.cl.g i).i, i6 (p.cl.su i), i6 (p.cl.ca i)]).den ∧ True ∧ True ∧ True ∧ True) ∧ p.ho.1 = p.ho.1 ∧ (∀ (i : Nat), i < p.ho.1 → (SV.agg [SV.dec (p.ho.g i).p (p.ho.g i).i, i6 (p.ho.su i), i6 (p.ho.ca i)]).den = (SV.agg [SV.dec (p.ho.g i).p (p.ho.g i).i, i6 (p.ho.su i), i6 (p.ho.ca i)]).den ∧ True ∧ True ∧ True ∧ True) ∧ True) ∧ (¬hasP p.s (↑z : Int) → ((-9223372036854775808 : Int) ≤ (↑z : Int) + (1 : Int) ∧ (↑z : Int) + (1 : Int) ≤ (9223372036854775807 : Int)) ∧ ∃ (z_1 : Nat), z_1 ≤ p.1.toNat ∧ p.1.toNat - z_1 < p.1.toNat - z ∧ (0 : Nat) = (0 : Nat) ∧ (0 : Nat) = (0 : Nat) ∧ p.s = p.s ∧ p.e = p.e ∧ (↑(cN p.s z) : Int) = (↑(cN p.s z_1) : Int) ∧ p.1 = p.1 ∧ (↑z : Int) + (1 : Int) = (↑z_1 : Int) ∧ p.1 = p.1 ∧ p.2 = p.2 ∧ p.cl.1 = p.cl.1 ∧ (∀ (i : Nat), i < p.cl.1 → (SV.agg [SV.dec (p.cl.g i).p (p.cl.g i).i, i6 (p.cl.su i), i6 (p.cl.ca i)]).den = (SV.agg [SV.dec (p.cl.g i).p (p.cl.g i).i, i6 (p.cl.su i), i6 (p.cl.ca i)]).den ∧ True ∧ True ∧ True ∧ True) ∧ p.ho.1 = p.ho.1 ∧ (∀ (i : Nat), i < p.ho.1 → (SV.agg
 [SV.dec (p.ho.g i).p (p.ho.g i).i, i6 (p.ho.su i), i6 (p.ho.ca i)]).den = (SV.agg [SV.dec (p.ho.g i).p (p.ho.g i).i, i6 (p.ho.su i), i6 (p.ho.ca i)]).den ∧ True ∧ True ∧ True ∧ True) ∧ True)) ∧ (¬p.e = (0 : Int) → ((-9223372036854775808 : Int) ≤ (↑z : Int) + (1 : Int) ∧ (↑z : Int) + (1 : Int) ≤ (9223372036854775807 : Int)) ∧ ∃ (z_1 : Nat), z_1 ≤ p.1.toNat ∧ p.1.toNat - z_1 < p.1.toNat - z ∧ (0 : Nat) = (0 : Nat) ∧ (0 : Nat) = (0 : Nat) ∧ p.s = p.s ∧ p.e = p.e ∧ (↑(cN p.s z) : Int) = (↑(cN p.s z_1) : Int) ∧ p.1 = p.1 ∧ (↑z : Int) + (1 : Int) = (↑z_1 : Int) ∧ p.1 = p.1 ∧ p.2 = p.2 ∧ p.cl.1 = p.cl.1 ∧ (∀ (i : Nat), i < p.cl.1 → (SV.agg [SV.dec (p.cl.g i).p (p.cl.g i).i, i6 (p.cl.su i), i6 (p.cl.ca i)]).den = (SV.agg [SV.dec (p.cl.g i).p (p.cl.g i).i, i6 (p.cl.su i), i6 (p.cl.ca i)]).den ∧ True ∧ True ∧ True ∧ True) ∧ p.ho.1 = p.ho.1 ∧ (∀ (i : Nat), i < p.ho.1 → (SV.agg [SV.dec (p.ho.g i).p (p.ho.g i).i, i6 (p.ho.su i), i6 (p.ho.ca i)]).den = (SV.agg [SV.dec (p.ho.g i).p (p.ho.g i).i, i6 (p.ho.su i), i6 (p.ho.ca i)]).den ∧ True ∧ True ∧ True ∧ True) ∧ True)) ∧ (¬(↑z : Int) < p.1 → p.s = p.s ∧ (↑(cN p.s z) : Int) = (↑(cN p.s p.1.toNat) : Int) ∧ p.1 = p.1 ∧ p.2 = p.2 ∧ p.cl.1 = p.cl.1 ∧ (∀ (i : Nat), i < p.cl.1 → (SV.agg [SV.dec (p.cl.g i).p (p.cl.g i).i, i6 (p.cl.su i), i6 (p.cl.ca i)]).den = (SV.agg [SV.dec (p.cl.g i).p (p.cl.g i).i, i6 (p.cl.su i), i6 (p.cl.ca i)]).den ∧ True ∧ True ∧ True ∧ True) ∧ p.ho.1 = p.ho.1 ∧ (∀ (i : Nat), i < p.ho.1 → (SV.agg [SV.dec (p.ho.g i).p (p.ho.g i).i, i6 (p.ho.su i), i6 (p.ho.ca i)]).den = (SV.agg [SV.dec (p.ho.g i).p (p.ho.g i).i, i6 (p.ho.su i), i6 (p.ho.ca i)]).den ∧ True ∧ True ∧ True ∧ True) ∧ True)) := by kernel_rfl
theorem halG_vc (ma : Int) (wr : Int) (cl : Dl) (ho : Dl) (o : Int) : halG ma wr cl ho o = ((0 : Nat) < (1 : Nat) ∧ (∀ (i : Nat), i < cl.1 → True ∧ True ∧ True ∧ True) ∧ (∀ (i : Nat), i < ho.1 → True ∧ True ∧ True ∧ True) ∧ (SV.lst (3 : Nat) cl.n fun (k : Nat) => SV.agg [SV.dec (cl.g k).p (cl.g k).i, i6 (cl.su k), i6 (cl.ca k)]) = (dlOf cl.n fun (k : Nat) => SV.agg [SV.dec (cl.g k).p (cl.g k).i, i6 (cl.su k), i6 (cl.ca k)]).sv ∧ (SV.lst (3 : Nat) ho.n fun (k : Nat) => SV.agg [SV.dec (ho.g k).p (ho.g k).i, i6 (ho.su k), i6 (ho.ca k)]) = (dlOf ho.n fun (k : Nat) => SV.agg [SV.dec (ho.g k).p (ho.g k).i, i6 (ho.su k), i6 (ho.ca k)]).sv ∧ (greP ho.n cl.n (12 : Int) → true = true ∧ True) ∧ (¬greP ho.n cl.n (12 : Int) → (0 : Nat) < (1 : Nat) ∧ ((20 : Int) ≤ (↑cl.1 : Int) → true = true ∧ True) ∧ (¬(20 : Int) ≤ (↑cl.1 : Int) → (0 : Nat) < (1 : Nat) ∧ (∀ (i : Nat), i < cl.1 → True ∧ True ∧ True ∧ True) ∧ (∀ (i : Nat), i < ho.1 → True ∧ True ∧ True ∧ True) ∧ (SV.lst (3 : Nat) cl.n fun (k : Nat) => SV.agg [SV.dec (cl.g k).p (cl.g k).i, i6 (cl.su k), i6 (cl.ca k)]) = (dlOf cl.n fun (k : Nat) => SV.agg [SV.dec (cl.g k).p (cl.g k).i, i6 (cl.su k), i6 (cl.ca k)]).sv ∧ (SV.lst (3 : Nat) ho.n fun (k : Nat) => SV.agg [SV.dec (ho.g k).p (ho.g k).i, i6 (ho.su k), i6 (ho.ca k)]) = (dlOf ho.n fun (k : Nat) => SV.agg [SV.dec (ho.g k).p (ho.g k).i, i6 (ho.su k), i6 (ho.ca k)]).sv ∧ okD (dlOf cl.n fun (k : Nat) => SV.agg [SV.dec (cl.g k).p (cl.g k).i, i6 (cl.su k), i6 (cl.ca k)]) ∧ okD (dlOf ho.n fun (k : Nat) => SV.agg [SV.dec (ho.g k).p (ho.g k).i, i6 (ho.su k), i6 (ho.ca k)]) ∧ (0 : Nat) < (1 : Nat) ∧ (∀ (i : Nat), i < cl.1 → True ∧ True ∧ True ∧ True) ∧ (∀ (i : Nat), i < ho.1 → True ∧ True ∧ True ∧ True) ∧ (SV.lst (3 : Nat) cl.n fun (k : Nat) =>
 SV.agg [SV.dec (cl.g k).p (cl.g k).i, i6 (cl.su k), i6 (cl.ca k)]) = (dlOf cl.n fun (k : Nat) => SV.agg [SV.dec (cl.g k).p (cl.g k).i, i6 (cl.su k), i6 (cl.ca k)]).sv ∧ (SV.lst (3 : Nat) ho.n fun (k : Nat) => SV.agg [SV.dec (ho.g k).p (ho.g k).i, i6 (ho.su k), i6 (ho.ca k)]) = (dlOf ho.n fun (k : Nat) => SV.agg [SV.dec (ho.g k).p (ho.g k).i, i6 (ho.su k), i6 (ho.ca k)]).sv ∧ (¬nE ma wr (dlOf cl.n fun (k : Nat) => SV.agg [SV.dec (cl.g k).p (cl.g k).i, i6 (cl.su k), i6 (cl.ca k)]) (dlOf ho.n fun (k : Nat) => SV.agg [SV.dec (ho.g k).p (ho.g k).i, i6 (ho.su k), i6 (ho.ca k)]) = (0 : Int) → (nI ma wr (dlOf cl.n fun (k : Nat) => SV.agg [SV.dec (cl.g k).p (cl.g k).i, i6 (cl.su k), i6 (cl.ca k)]) (dlOf ho.n fun (k : Nat) => SV.agg [SV.dec (ho.g k).p (ho.g k).i, i6 (ho.su k), i6 (ho.ca k)]) = (0 : Int) → (nL ma wr (dlOf cl.n fun (k : Nat) => SV.agg [SV.dec (cl.g k).p (cl.g k).i, i6 (cl.su k), i6 (cl.ca k)]) (dlOf ho.n fun (k : Nat) => SV.agg [SV.dec (ho.g k).p (ho.g k).i, i6 (ho.su k), i6 (ho.ca k)]) = (0 : Int) → (nE ma wr (dlOf cl.n fun (k : Nat) => SV.agg [SV.dec (cl.g k).p (cl.g k).i, i6 (cl.su k), i6 (cl.ca k)]) (dlOf ho.n fun (k : Nat) => SV.agg [SV.dec (ho.g k).p (ho.g k).i, i6 (ho.su k), i6 (ho.ca k)]) = (1 : Int) → ((true = true ↔ erX ma wr (dlOf cl.n fun (k : Nat) => SV.agg [SV.dec (cl.g k).p (cl.g k).i, i6 (cl.su k), i6 (cl.ca k)]) (dlOf ho.n fun (k : Nat) => SV.agg [SV.dec (ho.g k).p (ho.g k).i, i6 (ho.su k), i6 (ho.ca k)]) = nE ma wr (dlOf cl.n fun (k : Nat) => SV.agg [SV.dec (cl.g k).p (cl.g k).i, i6 (cl.su k), i6 (cl.ca k)]) (dlOf ho.n fun (k : Nat) => SV.agg [SV.dec (ho.g k).p (ho.g k).i, i6 (ho.su k), i6 (ho.ca k)])) → true = true ∧ True) ∧ (¬(true = true ↔ erX ma wr (dlOf cl.n fun (k : Nat) => SV.agg [SV.dec (cl.g k).p (cl.g k).i, i6 (cl.su k), i6 (cl.ca k)])
 (dlOf ho.n fun (k : Nat) => SV.agg [SV.dec (ho.g k).p (ho.g k).i, i6 (ho.su k), i6 (ho.ca k)]) = nE ma wr (dlOf cl.n fun (k : Nat) => SV.agg [SV.dec (cl.g k).p (cl.g k).i, i6 (cl.su k), i6 (cl.ca k)]) (dlOf ho.n fun (k : Nat) => SV.agg [SV.dec (ho.g k).p (ho.g k).i, i6 (ho.su k), i6 (ho.ca k)])) → false = true ∧ True)) ∧ (¬nE ma wr (dlOf cl.n fun (k : Nat) => SV.agg [SV.dec (cl.g k).p (cl.g k).i, i6 (cl.su k), i6 (cl.ca k)]) (dlOf ho.n fun (k : Nat) => SV.agg [SV.dec (ho.g k).p (ho.g k).i, i6 (ho.su k), i6 (ho.ca k)]) = (1 : Int) → ((nE ma wr (dlOf cl.n fun (k : Nat) => SV.agg [SV.dec (cl.g k).p (cl.g k).i, i6 (cl.su k), i6 (cl.ca k)]) (dlOf ho.n fun (k : Nat) => SV.agg [SV.dec (ho.g k).p (ho.g k).i, i6 (ho.su k), i6 (ho.ca k)]) = (4 : Int) ↔ erX ma wr (dlOf cl.n fun (k : Nat) => SV.agg [SV.dec (cl.g k).p (cl.g k).i, i6 (cl.su k), i6 (cl.ca k)]) (dlOf ho.n fun (k : Nat) => SV.agg [SV.dec (ho.g k).p (ho.g k).i, i6 (ho.su k), i6 (ho.ca k)]) = nE ma wr (dlOf cl.n fun (k : Nat) => SV.agg [SV.dec (cl.g k).p (cl.g k).i, i6 (cl.su k), i6 (cl.ca k)]) (dlOf ho.n fun (k : Nat) => SV.agg [SV.dec (ho.g k).p (ho.g k).i, i6 (ho.su k), i6 (ho.ca k)])) → true = true ∧ True) ∧ (¬(nE ma wr (dlOf cl.n fun (k : Nat) => SV.agg [SV.dec (cl.g k).p (cl.g k).i, i6 (cl.su k), i6 (cl.ca k)]) (dlOf ho.n fun (k : Nat) => SV.agg [SV.dec (ho.g k).p (ho.g k).i, i6 (ho.su k), i6 (ho.ca k)]) = (4 : Int) ↔ erX ma wr (dlOf cl.n fun (k : Nat) => SV.agg [SV.dec (cl.g k).p (cl.g k).i, i6 (cl.su k), i6 (cl.ca k)]) (dlOf ho.n fun (k : Nat) => SV.agg [SV.dec (ho.g k).p (ho.g k).i, i6 (ho.su k), i6 (ho.ca k)]) = nE ma wr (dlOf cl.n fun (k : Nat) => SV.agg [SV.dec (cl.g k).p (cl.g k).i, i6 (cl.su k), i6 (cl.ca k)]) (dlOf ho.n fun (k : Nat) => SV.agg [SV.dec (ho.g k).p (ho.g k).i, i6 (ho.su k), i6 (ho.ca k)])) →
 false = true ∧ True))) ∧ (¬nL ma wr (dlOf cl.n fun (k : Nat) => SV.agg [SV.dec (cl.g k).p (cl.g k).i, i6 (cl.su k), i6 (cl.ca k)]) (dlOf ho.n fun (k : Nat) => SV.agg [SV.dec (ho.g k).p (ho.g k).i, i6 (ho.su k), i6 (ho.ca k)]) = (0 : Int) → false = true ∧ True)) ∧ (¬nI ma wr (dlOf cl.n fun (k : Nat) => SV.agg [SV.dec (cl.g k).p (cl.g k).i, i6 (cl.su k), i6 (cl.ca k)]) (dlOf ho.n fun (k : Nat) => SV.agg [SV.dec (ho.g k).p (ho.g k).i, i6 (ho.su k), i6 (ho.ca k)]) = (0 : Int) → false = true ∧ True)) ∧ (¬¬nE ma wr (dlOf cl.n fun (k : Nat) => SV.agg [SV.dec (cl.g k).p (cl.g k).i, i6 (cl.su k), i6 (cl.ca k)]) (dlOf ho.n fun (k : Nat) => SV.agg [SV.dec (ho.g k).p (ho.g k).i, i6 (ho.su k), i6 (ho.ca k)]) = (0 : Int) → (¬erX ma wr (dlOf cl.n fun (k : Nat) => SV.agg [SV.dec (cl.g k).p (cl.g k).i, i6 (cl.su k), i6 (cl.ca k)]) (dlOf ho.n fun (k : Nat) => SV.agg [SV.dec (ho.g k).p (ho.g k).i, i6 (ho.su k), i6 (ho.ca k)]) = (0 : Int) → false = true ∧ True) ∧ (¬¬erX ma wr (dlOf cl.n fun (k : Nat) => SV.agg [SV.dec (cl.g k).p (cl.g k).i, i6 (cl.su k), i6 (cl.ca k)]) (dlOf ho.n fun (k : Nat) => SV.agg [SV.dec (ho.g k).p (ho.g k).i, i6 (ho.su k), i6 (ho.ca k)]) = (0 : Int) → (nI ma wr (dlOf cl.n fun (k : Nat) => SV.agg [SV.dec (cl.g k).p (cl.g k).i, i6 (cl.su k), i6 (cl.ca k)]) (dlOf ho.n fun (k : Nat) => SV.agg [SV.dec (ho.g k).p (ho.g k).i, i6 (ho.su k), i6 (ho.ca k)]) < (0 : Int) → false = true ∧ True) ∧ (¬nI ma wr (dlOf cl.n fun (k : Nat) => SV.agg [SV.dec (cl.g k).p (cl.g k).i, i6 (cl.su k), i6 (cl.ca k)]) (dlOf ho.n fun (k : Nat) => SV.agg [SV.dec (ho.g k).p (ho.g k).i, i6 (ho.su k), i6 (ho.ca k)]) < (0 : Int) → (0 : Nat) < (1 : Nat) ∧ ((↑ho.1 : Int) ≤ nI ma wr (dlOf cl.n fun (k : Nat) => SV.agg [SV.dec (cl.g k).p (cl.g k).i, i6 (cl.su k), i6 (cl.ca k)])
 (dlOf ho.n fun (k : Nat) => SV.agg [SV.dec (ho.g k).p (ho.g k).i, i6 (ho.su k), i6 (ho.ca k)]) → false = true ∧ True) ∧ (¬(↑ho.1 : Int) ≤ nI ma wr (dlOf cl.n fun (k : Nat) => SV.agg [SV.dec (cl.g k).p (cl.g k).i, i6 (cl.su k), i6 (cl.ca k)]) (dlOf ho.n fun (k : Nat) => SV.agg [SV.dec (ho.g k).p (ho.g k).i, i6 (ho.su k), i6 (ho.ca k)]) → (0 : Nat) < (1 : Nat) ∧ (∀ (i : Nat), i < cl.1 → True ∧ True ∧ True ∧ True) ∧ (∀ (i : Nat), i < ho.1 → True ∧ True ∧ True ∧ True) ∧ (SV.lst (3 : Nat) cl.n fun (k : Nat) => SV.agg [SV.dec (cl.g k).p (cl.g k).i, i6 (cl.su k), i6 (cl.ca k)]) = (dlOf cl.n fun (k : Nat) => SV.agg [SV.dec (cl.g k).p (cl.g k).i, i6 (cl.su k), i6 (cl.ca k)]).sv ∧ (SV.lst (3 : Nat) ho.n fun (k : Nat) => SV.agg [SV.dec (ho.g k).p (ho.g k).i, i6 (ho.su k), i6 (ho.ca k)]) = (dlOf ho.n fun (k : Nat) => SV.agg [SV.dec (ho.g k).p (ho.g k).i, i6 (ho.su k), i6 (ho.ca k)]).sv ∧ (¬okSR ma wr (dlOf cl.n fun (k : Nat) => SV.agg [SV.dec (cl.g k).p (cl.g k).i, i6 (cl.su k), i6 (cl.ca k)]) (dlOf ho.n fun (k : Nat) => SV.agg [SV.dec (ho.g k).p (ho.g k).i, i6 (ho.su k), i6 (ho.ca k)]) → false = true ∧ True) ∧ (¬¬okSR ma wr (dlOf cl.n fun (k : Nat) => SV.agg [SV.dec (cl.g k).p (cl.g k).i, i6 (cl.su k), i6 (cl.ca k)]) (dlOf ho.n fun (k : Nat) => SV.agg [SV.dec (ho.g k).p (ho.g k).i, i6 (ho.su k), i6 (ho.ca k)]) → (AfP.mk ma wr (dlOf cl.n fun (k : Nat) => SV.agg [SV.dec (cl.g k).p (cl.g k).i, i6 (cl.su k), i6 (cl.ca k)]) (dlOf ho.n fun (k : Nat) => SV.agg [SV.dec (ho.g k).p (ho.g k).i, i6 (ho.su k), i6 (ho.ca k)]) (nI ma wr (dlOf cl.n fun (k : Nat) => SV.agg [SV.dec (cl.g k).p (cl.g k).i, i6 (cl.su k), i6 (cl.ca k)]) (dlOf ho.n fun (k : Nat) => SV.agg [SV.dec (ho.g k).p (ho.g k).i, i6 (ho.su k), i6 (ho.ca k)])) true).ok ∧ nI ma wr (dlOf cl.n fun (k : Nat) => SV.agg
 [SV.dec (cl.g k).p (cl.g k).i, i6 (cl.su k), i6 (cl.ca k)]) (dlOf ho.n fun (k : Nat) => SV.agg [SV.dec (ho.g k).p (ho.g k).i, i6 (ho.su k), i6 (ho.ca k)]) = nI ma wr (dlOf cl.n fun (k : Nat) => SV.agg [SV.dec (cl.g k).p (cl.g k).i, i6 (cl.su k), i6 (cl.ca k)]) (dlOf ho.n fun (k : Nat) => SV.agg [SV.dec (ho.g k).p (ho.g k).i, i6 (ho.su k), i6 (ho.ca k)]) ∧ true = true ∧ (0 : Nat) = (0 : Nat) ∧ (0 : Nat) = (0 : Nat) ∧ ma = ma ∧ wr = wr ∧ cl.1 = cl.1 ∧ (∀ (i : Nat), i < cl.1 → (SV.agg [SV.dec (cl.g i).p (cl.g i).i, i6 (cl.su i), i6 (cl.ca i)]).den = (SV.agg [SV.dec ((dlOf cl.n fun (k : Nat) => SV.agg [SV.dec (cl.g k).p (cl.g k).i, i6 (cl.su k), i6 (cl.ca k)]).g i).p ((dlOf cl.n fun (k : Nat) => SV.agg [SV.dec (cl.g k).p (cl.g k).i, i6 (cl.su k), i6 (cl.ca k)]).g i).i, i6 ((dlOf cl.n fun (k : Nat) => SV.agg [SV.dec (cl.g k).p (cl.g k).i, i6 (cl.su k), i6 (cl.ca k)]).su i), i6 ((dlOf cl.n fun (k : Nat) => SV.agg [SV.dec (cl.g k).p (cl.g k).i, i6 (cl.su k), i6 (cl.ca k)]).ca i)]).den) ∧ ho.1 = ho.1 ∧ (∀ (i : Nat), i < ho.1 → (SV.agg [SV.dec (ho.g i).p (ho.g i).i, i6 (ho.su i), i6 (ho.ca i)]).den = (SV.agg [SV.dec ((dlOf ho.n fun (k : Nat) => SV.agg [SV.dec (ho.g k).p (ho.g k).i, i6 (ho.su k), i6 (ho.ca k)]).g i).p ((dlOf ho.n fun (k : Nat) => SV.agg [SV.dec (ho.g k).p (ho.g k).i, i6 (ho.su k), i6 (ho.ca k)]).g i).i, i6 ((dlOf ho.n fun (k : Nat) => SV.agg [SV.dec (ho.g k).p (ho.g k).i, i6 (ho.su k), i6 (ho.ca k)]).su i), i6 ((dlOf ho.n fun (k : Nat) => SV.agg [SV.dec (ho.g k).p (ho.g k).i, i6 (ho.su k), i6 (ho.ca k)]).ca i)]).den) ∧ (AfP.mk ma wr (dlOf cl.n fun (k : Nat) => SV.agg [SV.dec (cl.g k).p (cl.g k).i, i6 (cl.su k), i6 (cl.ca k)]) (dlOf ho.n fun (k : Nat) => SV.agg [SV.dec (ho.g k).p (ho.g k).i, i6 (ho.su k), i6 (ho.ca k)]) (nI ma wr (dlOf cl.n fun (k : Nat) =>
 SV.agg [SV.dec (cl.g k).p (cl.g k).i, i6 (cl.su k), i6 (cl.ca k)]) (dlOf ho.n fun (k : Nat) => SV.agg [SV.dec (ho.g k).p (ho.g k).i, i6 (ho.su k), i6 (ho.ca k)])) false).ok ∧ nI ma wr (dlOf cl.n fun (k : Nat) => SV.agg [SV.dec (cl.g k).p (cl.g k).i, i6 (cl.su k), i6 (cl.ca k)]) (dlOf ho.n fun (k : Nat) => SV.agg [SV.dec (ho.g k).p (ho.g k).i, i6 (ho.su k), i6 (ho.ca k)]) = nI ma wr (dlOf cl.n fun (k : Nat) => SV.agg [SV.dec (cl.g k).p (cl.g k).i, i6 (cl.su k), i6 (cl.ca k)]) (dlOf ho.n fun (k : Nat) => SV.agg [SV.dec (ho.g k).p (ho.g k).i, i6 (ho.su k), i6 (ho.ca k)]) ∧ false = false ∧ (0 : Nat) = (0 : Nat) ∧ (0 : Nat) = (0 : Nat) ∧ ma = ma ∧ wr = wr ∧ cl.1 = cl.1 ∧ (∀ (i : Nat), i < cl.1 → (SV.agg [SV.dec (cl.g i).p (cl.g i).i, i6 (cl.su i), i6 (cl.ca i)]).den = (SV.agg [SV.dec ((dlOf cl.n fun (k : Nat) => SV.agg [SV.dec (cl.g k).p (cl.g k).i, i6 (cl.su k), i6 (cl.ca k)]).g i).p ((dlOf cl.n fun (k : Nat) => SV.agg [SV.dec (cl.g k).p (cl.g k).i, i6 (cl.su k), i6 (cl.ca k)]).g i).i, i6 ((dlOf cl.n fun (k : Nat) => SV.agg [SV.dec (cl.g k).p (cl.g k).i, i6 (cl.su k), i6 (cl.ca k)]).su i), i6 ((dlOf cl.n fun (k : Nat) => SV.agg [SV.dec (cl.g k).p (cl.g k).i, i6 (cl.su k), i6 (cl.ca k)]).ca i)]).den) ∧ ho.1 = ho.1 ∧ (∀ (i : Nat), i < ho.1 → (SV.agg [SV.dec (ho.g i).p (ho.g i).i, i6 (ho.su i), i6 (ho.ca i)]).den = (SV.agg [SV.dec ((dlOf ho.n fun (k : Nat) => SV.agg [SV.dec (ho.g k).p (ho.g k).i, i6 (ho.su k), i6 (ho.ca k)]).g i).p ((dlOf ho.n fun (k : Nat) => SV.agg [SV.dec (ho.g k).p (ho.g k).i, i6 (ho.su k), i6 (ho.ca k)]).g i).i, i6 ((dlOf ho.n fun (k : Nat) => SV.agg [SV.dec (ho.g k).p (ho.g k).i, i6 (ho.su k), i6 (ho.ca k)]).su i), i6 ((dlOf ho.n fun (k : Nat) => SV.agg [SV.dec (ho.g k).p (ho.g k).i, i6 (ho.su k), i6 (ho.ca k)]).ca i)]).den) ∧ (¬max (↑(cN (AfP.mk ma wr
 (dlOf cl.n fun (k : Nat) => SV.agg [SV.dec (cl.g k).p (cl.g k).i, i6 (cl.su k), i6 (cl.ca k)]) (dlOf ho.n fun (k : Nat) => SV.agg [SV.dec (ho.g k).p (ho.g k).i, i6 (ho.su k), i6 (ho.ca k)]) (nI ma wr (dlOf cl.n fun (k : Nat) => SV.agg [SV.dec (cl.g k).p (cl.g k).i, i6 (cl.su k), i6 (cl.ca k)]) (dlOf ho.n fun (k : Nat) => SV.agg [SV.dec (ho.g k).p (ho.g k).i, i6 (ho.su k), i6 (ho.ca k)])) true).s ma.toNat) : Int) (↑(cN (AfP.mk ma wr (dlOf cl.n fun (k : Nat) => SV.agg [SV.dec (cl.g k).p (cl.g k).i, i6 (cl.su k), i6 (cl.ca k)]) (dlOf ho.n fun (k : Nat) => SV.agg [SV.dec (ho.g k).p (ho.g k).i, i6 (ho.su k), i6 (ho.ca k)]) (nI ma wr (dlOf cl.n fun (k : Nat) => SV.agg [SV.dec (cl.g k).p (cl.g k).i, i6 (cl.su k), i6 (cl.ca k)]) (dlOf ho.n fun (k : Nat) => SV.agg [SV.dec (ho.g k).p (ho.g k).i, i6 (ho.su k), i6 (ho.ca k)])) false).s ma.toNat) : Int) = nL ma wr (dlOf cl.n fun (k : Nat) => SV.agg [SV.dec (cl.g k).p (cl.g k).i, i6 (cl.su k), i6 (cl.ca k)]) (dlOf ho.n fun (k : Nat) => SV.agg [SV.dec (ho.g k).p (ho.g k).i, i6 (ho.su k), i6 (ho.ca k)]) → false = true ∧ True) ∧ (¬¬max (↑(cN (AfP.mk ma wr (dlOf cl.n fun (k : Nat) => SV.agg [SV.dec (cl.g k).p (cl.g k).i, i6 (cl.su k), i6 (cl.ca k)]) (dlOf ho.n fun (k : Nat) => SV.agg [SV.dec (ho.g k).p (ho.g k).i, i6 (ho.su k), i6 (ho.ca k)]) (nI ma wr (dlOf cl.n fun (k : Nat) => SV.agg [SV.dec (cl.g k).p (cl.g k).i, i6 (cl.su k), i6 (cl.ca k)]) (dlOf ho.n fun (k : Nat) => SV.agg [SV.dec (ho.g k).p (ho.g k).i, i6 (ho.su k), i6 (ho.ca k)])) true).s ma.toNat) : Int) (↑(cN (AfP.mk ma wr (dlOf cl.n fun (k : Nat) => SV.agg [SV.dec (cl.g k).p (cl.g k).i, i6 (cl.su k), i6 (cl.ca k)]) (dlOf ho.n fun (k : Nat) => SV.agg [SV.dec (ho.g k).p (ho.g k).i, i6 (ho.su k), i6 (ho.ca k)]) (nI ma wr (dlOf cl.n fun (k : Nat) => SV.agg [SV.dec (cl.g k).p
 (cl.g k).i, i6 (cl.su k), i6 (cl.ca k)]) (dlOf ho.n fun (k : Nat) => SV.agg [SV.dec (ho.g k).p (ho.g k).i, i6 (ho.su k), i6 (ho.ca k)])) false).s ma.toNat) : Int) = nL ma wr (dlOf cl.n fun (k : Nat) => SV.agg [SV.dec (cl.g k).p (cl.g k).i, i6 (cl.su k), i6 (cl.ca k)]) (dlOf ho.n fun (k : Nat) => SV.agg [SV.dec (ho.g k).p (ho.g k).i, i6 (ho.su k), i6 (ho.ca k)]) → (¬bitO IntKind.i64 (AfP.mk ma wr (dlOf cl.n fun (k : Nat) => SV.agg [SV.dec (cl.g k).p (cl.g k).i, i6 (cl.su k), i6 (cl.ca k)]) (dlOf ho.n fun (k : Nat) => SV.agg [SV.dec (ho.g k).p (ho.g k).i, i6 (ho.su k), i6 (ho.ca k)]) (nI ma wr (dlOf cl.n fun (k : Nat) => SV.agg [SV.dec (cl.g k).p (cl.g k).i, i6 (cl.su k), i6 (cl.ca k)]) (dlOf ho.n fun (k : Nat) => SV.agg [SV.dec (ho.g k).p (ho.g k).i, i6 (ho.su k), i6 (ho.ca k)])) true).s (AfP.mk ma wr (dlOf cl.n fun (k : Nat) => SV.agg [SV.dec (cl.g k).p (cl.g k).i, i6 (cl.su k), i6 (cl.ca k)]) (dlOf ho.n fun (k : Nat) => SV.agg [SV.dec (ho.g k).p (ho.g k).i, i6 (ho.su k), i6 (ho.ca k)]) (nI ma wr (dlOf cl.n fun (k : Nat) => SV.agg [SV.dec (cl.g k).p (cl.g k).i, i6 (cl.su k), i6 (cl.ca k)]) (dlOf ho.n fun (k : Nat) => SV.agg [SV.dec (ho.g k).p (ho.g k).i, i6 (ho.su k), i6 (ho.ca k)])) false).s = suX ma wr (dlOf cl.n fun (k : Nat) => SV.agg [SV.dec (cl.g k).p (cl.g k).i, i6 (cl.su k), i6 (cl.ca k)]) (dlOf ho.n fun (k : Nat) => SV.agg [SV.dec (ho.g k).p (ho.g k).i, i6 (ho.su k), i6 (ho.ca k)]) → false = true ∧ True) ∧ (¬¬bitO IntKind.i64 (AfP.mk ma wr (dlOf cl.n fun (k : Nat) => SV.agg [SV.dec (cl.g k).p (cl.g k).i, i6 (cl.su k), i6 (cl.ca k)]) (dlOf ho.n fun (k : Nat) => SV.agg [SV.dec (ho.g k).p (ho.g k).i, i6 (ho.su k), i6 (ho.ca k)]) (nI ma wr (dlOf cl.n fun (k : Nat) => SV.agg [SV.dec (cl.g k).p (cl.g k).i, i6 (cl.su k), i6 (cl.ca k)]) (dlOf ho.n fun (k : Nat) =>
 SV.agg [SV.dec (ho.g k).p (ho.g k).i, i6 (ho.su k), i6 (ho.ca k)])) true).s (AfP.mk ma wr (dlOf cl.n fun (k : Nat) => SV.agg [SV.dec (cl.g k).p (cl.g k).i, i6 (cl.su k), i6 (cl.ca k)]) (dlOf ho.n fun (k : Nat) => SV.agg [SV.dec (ho.g k).p (ho.g k).i, i6 (ho.su k), i6 (ho.ca k)]) (nI ma wr (dlOf cl.n fun (k : Nat) => SV.agg [SV.dec (cl.g k).p (cl.g k).i, i6 (cl.su k), i6 (cl.ca k)]) (dlOf ho.n fun (k : Nat) => SV.agg [SV.dec (ho.g k).p (ho.g k).i, i6 (ho.su k), i6 (ho.ca k)])) false).s = suX ma wr (dlOf cl.n fun (k : Nat) => SV.agg [SV.dec (cl.g k).p (cl.g k).i, i6 (cl.su k), i6 (cl.ca k)]) (dlOf ho.n fun (k : Nat) => SV.agg [SV.dec (ho.g k).p (ho.g k).i, i6 (ho.su k), i6 (ho.ca k)]) → ((-9223372036854775808 : Int) ≤ o ∧ o ≤ (9223372036854775807 : Int)) ∧ (0 : Nat) < (1 : Nat) ∧ ((↑ho.1 : Int) = (0 : Int) → False) ∧ (AfP.mk ma wr (dlOf cl.n fun (k : Nat) => SV.agg [SV.dec (cl.g k).p (cl.g k).i, i6 (cl.su k), i6 (cl.ca k)]) (dlOf ho.n fun (k : Nat) => SV.agg [SV.dec (ho.g k).p (ho.g k).i, i6 (ho.su k), i6 (ho.ca k)]) (o.tmod (↑ho.n : Int)) true).ok ∧ o.tmod (↑ho.1 : Int) = o.tmod (↑ho.1 : Int) ∧ true = true ∧ (0 : Nat) = (0 : Nat) ∧ (0 : Nat) = (0 : Nat) ∧ ma = ma ∧ wr = wr ∧ cl.1 = cl.1 ∧ (∀ (i : Nat), i < cl.1 → (SV.agg [SV.dec (cl.g i).p (cl.g i).i, i6 (cl.su i), i6 (cl.ca i)]).den = (SV.agg [SV.dec ((dlOf cl.n fun (k : Nat) => SV.agg [SV.dec (cl.g k).p (cl.g k).i, i6 (cl.su k), i6 (cl.ca k)]).g i).p ((dlOf cl.n fun (k : Nat) => SV.agg [SV.dec (cl.g k).p (cl.g k).i, i6 (cl.su k), i6 (cl.ca k)]).g i).i, i6 ((dlOf cl.n fun (k : Nat) => SV.agg [SV.dec (cl.g k).p (cl.g k).i, i6 (cl.su k), i6 (cl.ca k)]).su i), i6 ((dlOf cl.n fun (k : Nat) => SV.agg [SV.dec (cl.g k).p (cl.g k).i, i6 (cl.su k), i6 (cl.ca k)]).ca i)]).den) ∧ ho.1 = ho.1 ∧ (∀ (i : Nat), i < ho.1 → (SV.agg
 [SV.dec (ho.g i).p (ho.g i).i, i6 (ho.su i), i6 (ho.ca i)]).den = (SV.agg [SV.dec ((dlOf ho.n fun (k : Nat) => SV.agg [SV.dec (ho.g k).p (ho.g k).i, i6 (ho.su k), i6 (ho.ca k)]).g i).p ((dlOf ho.n fun (k : Nat) => SV.agg [SV.dec (ho.g k).p (ho.g k).i, i6 (ho.su k), i6 (ho.ca k)]).g i).i, i6 ((dlOf ho.n fun (k : Nat) => SV.agg [SV.dec (ho.g k).p (ho.g k).i, i6 (ho.su k), i6 (ho.ca k)]).su i), i6 ((dlOf ho.n fun (k : Nat) => SV.agg [SV.dec (ho.g k).p (ho.g k).i, i6 (ho.su k), i6 (ho.ca k)]).ca i)]).den) ∧ (AfP.mk ma wr (dlOf cl.n fun (k : Nat) => SV.agg [SV.dec (cl.g k).p (cl.g k).i, i6 (cl.su k), i6 (cl.ca k)]) (dlOf ho.n fun (k : Nat) => SV.agg [SV.dec (ho.g k).p (ho.g k).i, i6 (ho.su k), i6 (ho.ca k)]) (o.tmod (↑ho.n : Int)) false).ok ∧ o.tmod (↑ho.1 : Int) = o.tmod (↑ho.1 : Int) ∧ false = false ∧ (0 : Nat) = (0 : Nat) ∧ (0 : Nat) = (0 : Nat) ∧ ma = ma ∧ wr = wr ∧ cl.1 = cl.1 ∧ (∀ (i : Nat), i < cl.1 → (SV.agg [SV.dec (cl.g i).p (cl.g i).i, i6 (cl.su i), i6 (cl.ca i)]).den = (SV.agg [SV.dec ((dlOf cl.n fun (k : Nat) => SV.agg [SV.dec (cl.g k).p (cl.g k).i, i6 (cl.su k), i6 (cl.ca k)]).g i).p ((dlOf cl.n fun (k : Nat) => SV.agg [SV.dec (cl.g k).p (cl.g k).i, i6 (cl.su k), i6 (cl.ca k)]).g i).i, i6 ((dlOf cl.n fun (k : Nat) => SV.agg [SV.dec (cl.g k).p (cl.g k).i, i6 (cl.su k), i6 (cl.ca k)]).su i), i6 ((dlOf cl.n fun (k : Nat) => SV.agg [SV.dec (cl.g k).p (cl.g k).i, i6 (cl.su k), i6 (cl.ca k)]).ca i)]).den) ∧ ho.1 = ho.1 ∧ (∀ (i : Nat), i < ho.1 → (SV.agg [SV.dec (ho.g i).p (ho.g i).i, i6 (ho.su i), i6 (ho.ca i)]).den = (SV.agg [SV.dec ((dlOf ho.n fun (k : Nat) => SV.agg [SV.dec (ho.g k).p (ho.g k).i, i6 (ho.su k), i6 (ho.ca k)]).g i).p ((dlOf ho.n fun (k : Nat) => SV.agg [SV.dec (ho.g k).p (ho.g k).i, i6 (ho.su k), i6 (ho.ca k)]).g i).i, i6 ((dlOf ho.n fun (k :
 Nat) => SV.agg [SV.dec (ho.g k).p (ho.g k).i, i6 (ho.su k), i6 (ho.ca k)]).su i), i6 ((dlOf ho.n fun (k : Nat) => SV.agg [SV.dec (ho.g k).p (ho.g k).i, i6 (ho.su k), i6 (ho.ca k)]).ca i)]).den) ∧ (nL ma wr (dlOf cl.n fun (k : Nat) => SV.agg [SV.dec (cl.g k).p (cl.g k).i, i6 (cl.su k), i6 (cl.ca k)]) (dlOf ho.n fun (k : Nat) => SV.agg [SV.dec (ho.g k).p (ho.g k).i, i6 (ho.su k), i6 (ho.ca k)]) ≤ max (↑(cN (AfP.mk ma wr (dlOf cl.n fun (k : Nat) => SV.agg [SV.dec (cl.g k).p (cl.g k).i, i6 (cl.su k), i6 (cl.ca k)]) (dlOf ho.n fun (k : Nat) => SV.agg [SV.dec (ho.g k).p (ho.g k).i, i6 (ho.su k), i6 (ho.ca k)]) (o.tmod (↑ho.n : Int)) true).s ma.toNat) : Int) (↑(cN (AfP.mk ma wr (dlOf cl.n fun (k : Nat) => SV.agg [SV.dec (cl.g k).p (cl.g k).i, i6 (cl.su k), i6 (cl.ca k)]) (dlOf ho.n fun (k : Nat) => SV.agg [SV.dec (ho.g k).p (ho.g k).i, i6 (ho.su k), i6 (ho.ca k)]) (o.tmod (↑ho.n : Int)) false).s ma.toNat) : Int) → (nI ma wr (dlOf cl.n fun (k : Nat) => SV.agg [SV.dec (cl.g k).p (cl.g k).i, i6 (cl.su k), i6 (cl.ca k)]) (dlOf ho.n fun (k : Nat) => SV.agg [SV.dec (ho.g k).p (ho.g k).i, i6 (ho.su k), i6 (ho.ca k)]) ≤ o.tmod (↑ho.1 : Int) → (bitO IntKind.i64 (AfP.mk ma wr (dlOf cl.n fun (k : Nat) => SV.agg [SV.dec (cl.g k).p (cl.g k).i, i6 (cl.su k), i6 (cl.ca k)]) (dlOf ho.n fun (k : Nat) => SV.agg [SV.dec (ho.g k).p (ho.g k).i, i6 (ho.su k), i6 (ho.ca k)]) (o.tmod (↑ho.n : Int)) true).s (AfP.mk ma wr (dlOf cl.n fun (k : Nat) => SV.agg [SV.dec (cl.g k).p (cl.g k).i, i6 (cl.su k), i6 (cl.ca k)]) (dlOf ho.n fun (k : Nat) => SV.agg [SV.dec (ho.g k).p (ho.g k).i, i6 (ho.su k), i6 (ho.ca k)]) (o.tmod (↑ho.n : Int)) false).s = suX ma wr (dlOf cl.n fun (k : Nat) => SV.agg [SV.dec (cl.g k).p (cl.g k).i, i6 (cl.su k), i6 (cl.ca k)]) (dlOf ho.n fun (k : Nat) => SV.agg [SV.dec (ho.g k).p
 (ho.g k).i, i6 (ho.su k), i6 (ho.ca k)]) → true = true ∧ True) ∧ (¬bitO IntKind.i64 (AfP.mk ma wr (dlOf cl.n fun (k : Nat) => SV.agg [SV.dec (cl.g k).p (cl.g k).i, i6 (cl.su k), i6 (cl.ca k)]) (dlOf ho.n fun (k : Nat) => SV.agg [SV.dec (ho.g k).p (ho.g k).i, i6 (ho.su k), i6 (ho.ca k)]) (o.tmod (↑ho.n : Int)) true).s (AfP.mk ma wr (dlOf cl.n fun (k : Nat) => SV.agg [SV.dec (cl.g k).p (cl.g k).i, i6 (cl.su k), i6 (cl.ca k)]) (dlOf ho.n fun (k : Nat) => SV.agg [SV.dec (ho.g k).p (ho.g k).i, i6 (ho.su k), i6 (ho.ca k)]) (o.tmod (↑ho.n : Int)) false).s = suX ma wr (dlOf cl.n fun (k : Nat) => SV.agg [SV.dec (cl.g k).p (cl.g k).i, i6 (cl.su k), i6 (cl.ca k)]) (dlOf ho.n fun (k : Nat) => SV.agg [SV.dec (ho.g k).p (ho.g k).i, i6 (ho.su k), i6 (ho.ca k)]) → false = true ∧ True)) ∧ (¬nI ma wr (dlOf cl.n fun (k : Nat) => SV.agg [SV.dec (cl.g k).p (cl.g k).i, i6 (cl.su k), i6 (cl.ca k)]) (dlOf ho.n fun (k : Nat) => SV.agg [SV.dec (ho.g k).p (ho.g k).i, i6 (ho.su k), i6 (ho.ca k)]) ≤ o.tmod (↑ho.1 : Int) → (nL ma wr (dlOf cl.n fun (k : Nat) => SV.agg [SV.dec (cl.g k).p (cl.g k).i, i6 (cl.su k), i6 (cl.ca k)]) (dlOf ho.n fun (k : Nat) => SV.agg [SV.dec (ho.g k).p (ho.g k).i, i6 (ho.su k), i6 (ho.ca k)]) < max (↑(cN (AfP.mk ma wr (dlOf cl.n fun (k : Nat) => SV.agg [SV.dec (cl.g k).p (cl.g k).i, i6 (cl.su k), i6 (cl.ca k)]) (dlOf ho.n fun (k : Nat) => SV.agg [SV.dec (ho.g k).p (ho.g k).i, i6 (ho.su k), i6 (ho.ca k)]) (o.tmod (↑ho.n : Int)) true).s ma.toNat) : Int) (↑(cN (AfP.mk ma wr (dlOf cl.n fun (k : Nat) => SV.agg [SV.dec (cl.g k).p (cl.g k).i, i6 (cl.su k), i6 (cl.ca k)]) (dlOf ho.n fun (k : Nat) => SV.agg [SV.dec (ho.g k).p (ho.g k).i, i6 (ho.su k), i6 (ho.ca k)]) (o.tmod (↑ho.n : Int)) false).s ma.toNat) : Int) → (bitO IntKind.i64 (AfP.mk ma wr (dlOf cl.n fun (k : Nat) =>
 SV.agg [SV.dec (cl.g k).p (cl.g k).i, i6 (cl.su k), i6 (cl.ca k)]) (dlOf ho.n fun (k : Nat) => SV.agg [SV.dec (ho.g k).p (ho.g k).i, i6 (ho.su k), i6 (ho.ca k)]) (o.tmod (↑ho.n : Int)) true).s (AfP.mk ma wr (dlOf cl.n fun (k : Nat) => SV.agg [SV.dec (cl.g k).p (cl.g k).i, i6 (cl.su k), i6 (cl.ca k)]) (dlOf ho.n fun (k : Nat) => SV.agg [SV.dec (ho.g k).p (ho.g k).i, i6 (ho.su k), i6 (ho.ca k)]) (o.tmod (↑ho.n : Int)) false).s = suX ma wr (dlOf cl.n fun (k : Nat) => SV.agg [SV.dec (cl.g k).p (cl.g k).i, i6 (cl.su k), i6 (cl.ca k)]) (dlOf ho.n fun (k : Nat) => SV.agg [SV.dec (ho.g k).p (ho.g k).i, i6 (ho.su k), i6 (ho.ca k)]) → true = true ∧ True) ∧ (¬bitO IntKind.i64 (AfP.mk ma wr (dlOf cl.n fun (k : Nat) => SV.agg [SV.dec (cl.g k).p (cl.g k).i, i6 (cl.su k), i6 (cl.ca k)]) (dlOf ho.n fun (k : Nat) => SV.agg [SV.dec (ho.g k).p (ho.g k).i, i6 (ho.su k), i6 (ho.ca k)]) (o.tmod (↑ho.n : Int)) true).s (AfP.mk ma wr (dlOf cl.n fun (k : Nat) => SV.agg [SV.dec (cl.g k).p (cl.g k).i, i6 (cl.su k), i6 (cl.ca k)]) (dlOf ho.n fun (k : Nat) => SV.agg [SV.dec (ho.g k).p (ho.g k).i, i6 (ho.su k), i6 (ho.ca k)]) (o.tmod (↑ho.n : Int)) false).s = suX ma wr (dlOf cl.n fun (k : Nat) => SV.agg [SV.dec (cl.g k).p (cl.g k).i, i6 (cl.su k), i6 (cl.ca k)]) (dlOf ho.n fun (k : Nat) => SV.agg [SV.dec (ho.g k).p (ho.g k).i, i6 (ho.su k), i6 (ho.ca k)]) → false = true ∧ True)) ∧ (¬nL ma wr (dlOf cl.n fun (k : Nat) => SV.agg [SV.dec (cl.g k).p (cl.g k).i, i6 (cl.su k), i6 (cl.ca k)]) (dlOf ho.n fun (k : Nat) => SV.agg [SV.dec (ho.g k).p (ho.g k).i, i6 (ho.su k), i6 (ho.ca k)]) < max (↑(cN (AfP.mk ma wr (dlOf cl.n fun (k : Nat) => SV.agg [SV.dec (cl.g k).p (cl.g k).i, i6 (cl.su k), i6 (cl.ca k)]) (dlOf ho.n fun (k : Nat) => SV.agg [SV.dec (ho.g k).p (ho.g k).i, i6 (ho.su k), i6 (ho.ca k)]) (o.tmod
 (↑ho.n : Int)) true).s ma.toNat) : Int) (↑(cN (AfP.mk ma wr (dlOf cl.n fun (k : Nat) => SV.agg [SV.dec (cl.g k).p (cl.g k).i, i6 (cl.su k), i6 (cl.ca k)]) (dlOf ho.n fun (k : Nat) => SV.agg [SV.dec (ho.g k).p (ho.g k).i, i6 (ho.su k), i6 (ho.ca k)]) (o.tmod (↑ho.n : Int)) false).s ma.toNat) : Int) → false = true ∧ True))) ∧ (¬nL ma wr (dlOf cl.n fun (k : Nat) => SV.agg [SV.dec (cl.g k).p (cl.g k).i, i6 (cl.su k), i6 (cl.ca k)]) (dlOf ho.n fun (k : Nat) => SV.agg [SV.dec (ho.g k).p (ho.g k).i, i6 (ho.su k), i6 (ho.ca k)]) ≤ max (↑(cN (AfP.mk ma wr (dlOf cl.n fun (k : Nat) => SV.agg [SV.dec (cl.g k).p (cl.g k).i, i6 (cl.su k), i6 (cl.ca k)]) (dlOf ho.n fun (k : Nat) => SV.agg [SV.dec (ho.g k).p (ho.g k).i, i6 (ho.su k), i6 (ho.ca k)]) (o.tmod (↑ho.n : Int)) true).s ma.toNat) : Int) (↑(cN (AfP.mk ma wr (dlOf cl.n fun (k : Nat) => SV.agg [SV.dec (cl.g k).p (cl.g k).i, i6 (cl.su k), i6 (cl.ca k)]) (dlOf ho.n fun (k : Nat) => SV.agg [SV.dec (ho.g k).p (ho.g k).i, i6 (ho.su k), i6 (ho.ca k)]) (o.tmod (↑ho.n : Int)) false).s ma.toNat) : Int) → false = true ∧ True))))))))))) := by kernel_rfl
end Go.Proofs.Ytfjfnpknlkonnaa

set_option maxRecDepth 100000
namespace Go.Proofs.Ytfjfnpknlkonnaa
open Go Go.Lg
attribute [local irreducible] funS bodyH
theorem wiD_okR {ma : Int} {c : Dl} {b : Bool} {su ca : Int} (h : okRs ma c c.n) (h2 : okR ma su ca) : okRs ma (wiD c b su ca) (c.n + 1) := fun k hk => by
  by_cases e : k < c.n
  · have e2 : ((wiD c b su ca).su k) = c.su k := if_pos e
    have e3 : ((wiD c b su ca).ca k) = c.ca k := if_pos e
    rw [e2, e3]; exact h k e
  · have e2 : ((wiD c b su ca).su k) = su := if_neg e
    have e3 : ((wiD c b su ca).ca k) = ca := if_neg e
    rw [e2, e3]; exact h2
theorem wiD_okSR {ma wr : Int} {cl ho : Dl} {b : Bool} {k : Nat} (h : okSR ma wr cl ho) (hn : cl.n < 20) (hk : k < ho.n) : okSR ma wr (wiD cl b (ho.su k) (ho.ca k)) ho :=
  ⟨⟨h.b.hm, h.b.hw, hn, h.b.hn⟩, wiD_okR h.hc (h.hh k hk), h.hh⟩
theorem suX_rs {ma wr : Int} {cl ho : Dl} (h : okSR ma wr cl ho) (h1 : okD cl) (h2 : okD ho) : suX ma wr cl ho = rsS cl wr ma.toNat ∧ erX ma wr cl ho = if rsS cl wr ma.toNat = 0 then 4 else 0 := by
  have hk := (okS_R h1 h2).2 h
  have es := suS_rs (wr := wr) h.b.hm (okB_of h.b.hm h.hc)
  constructor
  · rw [suX, if_pos hk, es]
  · rw [erX, if_pos hk, es]
theorem rs_nat (c : Dl) (wr : Int) (m : Nat) : (((rsS c wr m).toNat : Nat) : Int) = rsS c wr m ∧ (rsS c wr m).toNat < 2 ^ m := by
  have h := rsS_le c wr m
  have hp : pw m = ((2 ^ m : Nat) : Int) := by unfold pw; simp
  rw [hp] at h
  omega
theorem rs_bit (c : Dl) (wr : Int) (k : Nat) : ∀ m, (rsS c wr m).toNat.testBit k = true ↔ k < m ∧ (rfN c k c.n : Int) ≤ wr
  | 0 => by simp [rsS]
  | m + 1 => by
    have ih := rs_bit c wr k m
    obtain ⟨b1, b2⟩ := rs_nat c wr m
    have hp : pw m = ((2 ^ m : Nat) : Int) := by unfold pw; simp
    simp only [rsS]
    by_cases e : (rfN c m c.n : Int) ≤ wr
    · rw [if_pos e]
      have e2 : (rsS c wr m + pw m).toNat = (rsS c wr m).toNat ||| 2 ^ m := by
        have := Nat.two_pow_add_eq_or_of_lt b2 1
        rw [Nat.mul_one, Nat.or_comm] at this
        omega
      rw [e2, Nat.testBit_or, Nat.testBit_two_pow, Bool.or_eq_true, ih, decide_eq_true_eq]
      constructor
      · rintro (h | rfl)
        · exact ⟨by omega, h.2⟩
        · exact ⟨by omega, e⟩
      · rintro ⟨h1, h2⟩
        by_cases hk : k < m
        · exact .inl ⟨hk, h2⟩
        · exact .inr (by omega)
    · rw [if_neg e]
      have e0 : rsS c wr m + 0 = rsS c wr m := by omega
      rw [e0, ih]
      constructor
      · rintro ⟨h1, h2⟩; exact ⟨by omega, h2⟩
      · rintro ⟨h1, h2⟩
        refine ⟨?_, h2⟩
        by_cases hk : k < m
        · exact hk
        · have : k = m := by omega
          subst this; exact absurd h2 e
theorem rs_has (c : Dl) (wr : Int) {m k : Nat} (hk : k < m) : hasP (rsS c wr m) k ↔ (rfN c k c.n : Int) ≤ wr := by
  rw [hasP_bit (rsS_le c wr m).1, Int.toNat_natCast, rs_bit]
  exact ⟨fun h => h.2, fun h => ⟨hk, h⟩⟩
theorem cN_rs (c : Dl) (wr : Int) (m : Nat) : ∀ k, k ≤ m → cN (rsS c wr m) k = rsN c wr k
  | 0, _ => rfl
  | k + 1, h => by
    have ih := cN_rs c wr m k (by omega)
    have e := rs_has c wr (m := m) (k := k) (by omega)
    simp only [cN, rsN, ih]
    by_cases hh : (rfN c k c.n : Int) ≤ wr
    · rw [if_pos (e.2 hh), if_pos hh]
    · rw [if_neg fun x => hh (e.1 x), if_neg hh]
theorem cN_le (s : Int) : ∀ k, cN s k ≤ k
  | 0 => by simp [cN]
  | k + 1 => by
    have := cN_le s k
    simp only [cN]
    split <;> omega
theorem aft_true {p : AfP} (hp : p.ok) : aftG p := by
  rw [aftG_vc]
  simp only [and_true, true_and, Nat.zero_lt_one, and_self, implies_true, Classical.not_not, dl_fold, sv_fold, wi_fold, Int.natCast_zero, Int.toNat_natCast, Nat.zero_add, Nat.add_zero]
  have b := hp.r.b
  have bm := b.hm
  have hk : p.h.toNat < p.ho.n := by have := hp.h; omega
  have hs : p.s = rsS p.c p.wr p.ma.toNat := (suX_rs (wiD_okSR hp.r hp.n hk) (wiD_ok hp.c (hp.o.su _) (hp.o.ca _)) hp.o).1
  have hb := rsS_le p.c p.wr p.ma.toNat
  have hw := pw_13 (z := p.ma.toNat) (by omega)
  have ee : p.e = if p.s = 0 then 4 else 0 := by
    rw [hs]
    exact (suX_rs (wiD_okSR hp.r hp.n hk) (wiD_ok hp.c (hp.o.su _) (hp.o.ca _)) hp.o).2
  refine ⟨hp.h.1, hp.h.2, by have := hp.n; omega, ⟨0, by omega, rfl, rfl, rfl, rfl⟩, fun z hz => ⟨fun hl => ⟨fun he => ⟨by unfold i64P; omega, by omega, fun hx => ?_, fun hx => ?_⟩, fun he => ?_⟩, fun hl => ?_⟩⟩
  · have := cN_le p.s z
    exact ⟨by omega, by omega, z + 1, by omega, by omega, by simp only [cN, if_pos hx]; omega, by omega⟩
  · exact ⟨by omega, z + 1, by omega, by omega, by simp only [cN, if_neg hx]; omega, by omega⟩
  · have h0 : p.s = 0 := by
      rw [ee] at he
      by_cases x : p.s = 0
      · exact x
      · rw [if_neg x] at he; exact absurd rfl he
    have hx : ¬ hasP p.s z := by
      rw [h0, hasP_bit (by omega)]
      simp
    exact ⟨by omega, z + 1, by omega, by omega, by simp only [cN, if_neg hx]; omega, by omega⟩
  · have : z = p.ma.toNat := by omega
    rw [this]
theorem af_n {p : AfP} (hp : p.ok) : p.s = rsS p.c p.wr p.ma.toNat ∧ cN p.s p.ma.toNat = rsN p.c p.wr p.ma.toNat := by
  have hk : p.h.toNat < p.ho.n := by have := hp.h; omega
  have hs : p.s = rsS p.c p.wr p.ma.toNat := (suX_rs (wiD_okSR hp.r hp.n hk) (wiD_ok hp.c (hp.o.su _) (hp.o.ca _)) hp.o).1
  exact ⟨hs, by rw [hs]; exact cN_rs _ _ _ _ (Nat.le_refl _)⟩
theorem orO_nat {a b : Int} (ha : 0 ≤ a ∧ a < 2 ^ 63) (hb : 0 ≤ b ∧ b < 2 ^ 63) : bitO .i64 a b = ((a.toNat ||| b.toNat : Nat) : Int) := by
  unfold bitO
  have e : IntKind.bits .i64 = 64 := rfl
  rw [e, BitVec.toNat_or, ofInt_nat ha.1 ha.2, ofInt_nat hb.1 hb.2]
  exact wrapN_small (n := a.toNat ||| b.toNat) (Nat.or_lt_two_pow (by omega) (by omega))
theorem wi_cnt (c : Dl) (b : Bool) (su ca : Int) (i : Int) : (spP (b = true) su ca i → rfN (wiD c b su ca) i (c.n + 1) = rfN c i c.n + 1) ∧ (¬ spP (b = true) su ca i → rfN (wiD c b su ca) i (c.n + 1) = rfN c i c.n) := by
  obtain ⟨l1, l2, l3⟩ := wiD_last c b su ca
  have e : spP ((wiD c b su ca).g c.n).p ((wiD c b su ca).su c.n) ((wiD c b su ca).ca c.n) i ↔ spP (b = true) su ca i := by
    rw [l2, l3]; exact spP_congr l1
  simp only [rfN, wiD_rf c b su ca i c.n (Nat.le_refl _)]
  exact ⟨fun h => by rw [if_pos (e.2 h)], fun h => by rw [if_neg fun x => h (e.1 x)]; omega⟩
theorem or_set {ma wr : Int} {cl : Dl} {su ca : Int} (hm : 1 ≤ ma ∧ ma ≤ 12) (hr : okR ma su ca) : bitO .i64 (rsS (wiD cl true su ca) wr ma.toNat) (rsS (wiD cl false su ca) wr ma.toNat) = rsS cl wr ma.toNat := by
  have hw := pw_13 (z := ma.toNat) (by omega)
  have a1 := rsS_le (wiD cl true su ca) wr ma.toNat
  have a2 := rsS_le (wiD cl false su ca) wr ma.toNat
  obtain ⟨a3, _⟩ := rs_nat cl wr ma.toNat
  rw [orO_nat ⟨a1.1, by omega⟩ ⟨a2.1, by omega⟩, ← a3]
  congr 1
  apply Nat.eq_of_testBit_eq
  intro k
  rw [Bool.eq_iff_iff, Nat.testBit_or, Bool.or_eq_true, rs_bit, rs_bit, rs_bit]
  obtain ⟨t1, t2⟩ := wi_cnt cl true su ca k
  obtain ⟨f1, f2⟩ := wi_cnt cl false su ca k
  have n1 : (wiD cl true su ca).n = cl.n + 1 := rfl
  have n2 : (wiD cl false su ca).n = cl.n + 1 := rfl
  rw [n1, n2]
  by_cases hk : k < ma.toNat
  · have no : ¬ (spP (true = true) su ca k ∧ spP (false = true) su ca k) := by
      rintro ⟨x, y⟩
      have x' : ¬ hasP ca k := by
        rcases x with x | x
        · exact x.2
        · exact absurd rfl x.1
      have y' : hasP su k := by
        rcases y with y | y
        · simp at y
        · exact y.2
      exact hr.2.2 k hk ⟨y', x'⟩
    by_cases x : spP (true = true) su ca k
    · have y : ¬ spP (false = true) su ca k := fun y => no ⟨x, y⟩
      rw [t1 x, f2 y]
      omega
    · rw [t2 x]
      by_cases y : spP (false = true) su ca k
      · rw [f1 y]; omega
      · rw [f2 y]; omega
  · omega
theorem le_min {f : Nat → Int} : ∀ {n k : Nat}, k < n → f (leI f n) ≤ f k ∧ (k < leI f n → f (leI f n) < f k)
  | 0, k, h => by omega
  | n + 1, k, h => by
    simp only [leI]
    by_cases hc : n = 0 ∨ f n < f (leI f n)
    · rw [if_pos hc]
      by_cases e : k = n
      · subst e; exact ⟨by omega, fun h => by omega⟩
      · have hk : k < n := by omega
        obtain ⟨i1, i2⟩ := le_min (f := f) hk
        rcases hc with hc | hc
        · omega
        · exact ⟨by omega, fun _ => by omega⟩
    · rw [if_neg hc]
      have hc1 : ¬ n = 0 := fun x => hc (.inl x)
      have hc2 : ¬ f n < f (leI f n) := fun x => hc (.inr x)
      by_cases e : k = n
      · subst e
        have := (leI_congr (f := f) (g := f) (n := k) fun _ _ => rfl).2 (by omega)
        exact ⟨by omega, fun h => by omega⟩
      · exact le_min (f := f) (by omega)
theorem hal_true {ma wr : Int} {cl ho : Dl} {o : Int} (h1 : okD cl) (h2 : okD ho) (h3 : 0 ≤ o ∧ o ≤ 255) : halG ma wr cl ho o := by
  rw [halG_vc]
  simp only [and_true, true_and, Nat.zero_lt_one, and_self, implies_true, Classical.not_not, dl_fold, sv_fold, Bool.false_eq_true, imp_false, true_iff]
  have eS := okS_R (ma := ma) (wr := wr) h1 h2
  refine fun _ hn => ⟨h1, h2, fun hE => ?_, fun hE => ?_⟩
  · have i0 : nI ma wr cl ho = 0 := by rw [nI, if_neg hE]
    have l0 : nL ma wr cl ho = 0 := by rw [nL, if_neg hE]
    refine ⟨fun _ => ⟨fun _ => ⟨fun h => ?_, fun h => ?_⟩, l0⟩, i0⟩
    · rw [h]
      rw [nE] at h
      split at h
      · split at h
        · omega
        · split at h
          · omega
          · split at h <;> omega
      · rename_i hk
        rw [erX, if_neg hk]
    · by_cases hk : okS ma wr cl ho
      · have hr := eS.1 hk
        obtain ⟨s1, s2⟩ := suX_rs hr h1 h2
        have eN := nu_rs (ma := ma) (wr := wr) (okB_of hk.hm hr.hc)
        have ez := rs_zero cl wr ma.toNat
        rw [s2]
        have e := nE.eq_1 ma wr cl ho
        rw [if_pos hk] at e
        by_cases z : rsS cl wr ma.toNat = 0
        · rw [if_pos z]
          have := ez.1 z
          rw [if_pos (by omega)] at e
          rw [e]
        · rw [if_neg z]
          have zz : ¬ rsN cl wr ma.toNat = 0 := fun x => z (ez.2 x)
          rw [if_neg (by omega)] at e
          constructor
          · intro x
            rw [x] at e
            split at e
            · omega
            · split at e <;> omega
          · intro x; omega
      · exact absurd (by rw [nE, if_neg hk]) h
  · have hk : okS ma wr cl ho := by
      apply Classical.byContradiction
      intro hk
      rw [nE, if_neg hk] at hE
      omega
    have hr := eS.1 hk
    have bm := hk.hm
    have bc := okB_of bm hr.hc
    have bh := okB_of bm hr.hh
    obtain ⟨s1, s2⟩ := suX_rs hr h1 h2
    have eN := nu_rs (ma := ma) (wr := wr) bc
    have ez := rs_zero cl wr ma.toNat
    have e := nE.eq_1 ma wr cl ho
    rw [if_pos hk, hE] at e
    have g1 : ¬ nuS ma wr cl = 0 := fun x => by rw [if_pos x] at e; omega
    rw [if_neg g1] at e
    have g2 : ¬ nuS ma wr cl = 1 := fun x => by rw [if_pos x] at e; omega
    rw [if_neg g2] at e
    have g3 : ¬ ho.n = 0 := fun x => by rw [if_pos x] at e; omega
    have zz : ¬ rsS cl wr ma.toNat = 0 := fun x => g1 (by rw [eN]; exact ez.1 x)
    rw [if_neg zz] at s2
    obtain ⟨l1, l2⟩ := leI_congr (f := moX ma wr cl ho) (g := mrX ma wr cl ho) (n := ho.n) fun k hk' => mo_mr bm.2 bc bh hk'
    have l2 := l2 (by omega)
    have eI : nI ma wr cl ho = leI (mrX ma wr cl ho) ho.n := by rw [nI, if_pos hE, l1]
    have l3 : leI (mrX ma wr cl ho) ho.n < ho.n := by rw [← l1]; exact l2
    have eL : nL ma wr cl ho = mrX ma wr cl ho (leI (mrX ma wr cl ho) ho.n) := by
      rw [nL, if_pos hE, ← l1]
      exact mo_mr bm.2 bc bh l2
    have ok : ∀ (b : Bool) {h : Int}, 0 ≤ h ∧ h < ho.n → (AfP.mk ma wr cl ho h b).ok := fun b {h} hh => ⟨hr, by show cl.n < 20; omega, hh, h1, h2⟩
    have MX : ∀ {h : Int}, 0 ≤ h ∧ h < ho.n → max (cN (AfP.mk ma wr cl ho h true).s ma.toNat : Int) (cN (AfP.mk ma wr cl ho h false).s ma.toNat : Int) = mrX ma wr cl ho h.toNat := fun {h} hh => by
      have a := (af_n (ok true hh)).2
      have b := (af_n (ok false hh)).2
      rw [a, b]; rfl
    have OR : ∀ {h : Int}, 0 ≤ h ∧ h < ho.n → bitO .i64 (AfP.mk ma wr cl ho h true).s (AfP.mk ma wr cl ho h false).s = suX ma wr cl ho := fun {h} hh => by
      have a := (af_n (ok true hh)).1
      have b := (af_n (ok false hh)).1
      rw [a, b, s1]
      exact or_set bm (hr.hh h.toNat (by omega))
    have hI : 0 ≤ nI ma wr cl ho ∧ nI ma wr cl ho < ho.n := by omega
    have hO : 0 ≤ o.tmod ho.n ∧ o.tmod ho.n < ho.n := by
      rw [Int.tmod_eq_emod_of_nonneg h3.1]
      exact ⟨Int.emod_nonneg _ (by omega), Int.emod_lt_of_pos _ (by omega)⟩
    have tI : (nI ma wr cl ho).toNat = leI (mrX ma wr cl ho) ho.n := by omega
    obtain ⟨m1, m2⟩ := le_min (f := mrX ma wr cl ho) (n := ho.n) (k := (o.tmod ho.n).toNat) (by omega)
    refine ⟨s2, fun _ => ⟨by omega, fun _ => ⟨by omega, fun _ => ⟨hr, fun _ => ⟨ok true hI, ok false hI, ?_, fun _ => ⟨OR hI, fun _ => ⟨by omega, by omega, ok true hO, ok false hO, fun h => ⟨fun _ => OR hO, fun h4 => ⟨fun _ => OR hO, ?_⟩⟩, ?_⟩⟩⟩⟩⟩⟩⟩
    · rw [MX hI, tI, eL]
    · rw [MX hO, eL]
      exact m2 (by omega)
    · rw [MX hO, eL]
      exact m1
end Go.Proofs.Ytfjfnpknlkonnaa
