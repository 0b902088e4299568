import Derived.Test.YtpannbkmpbioiaaPzn
set_option linter.unusedVariables false
set_option linter.unusedSimpArgs false
set_option maxRecDepth 100000
namespace Go.Proofs.Ytpannbkmpbioiaa
open Go Go.Lg
attribute [local irreducible] bodyH
def rI (x : Int) : Prop := -9223372036854775808 ≤ x ∧ x ≤ 9223372036854775807
def rE {α : Type} (a : α) : Prop := a = a
def tt3 : Prop := True ∧ True ∧ True
def tt4 : Prop := True ∧ True ∧ True ∧ True
def tt5 : Prop := True ∧ True ∧ True ∧ True ∧ True
def tt13 : Prop := True ∧ True ∧ True ∧ True ∧ True ∧ True ∧ True ∧ True ∧ True ∧ True ∧ True ∧ True ∧ True
def tt14 : Prop := True ∧ tt13
def ou8 (z : Int) : SV := .int .u8 z
def stN (l : List Nat) : Nat → Nat
  | 0 => 0
  | i + 1 => stN l i + pw (l.getD i 0)
def smN (w : Nw) (l : List Nat) : Nat → Int
  | 0 => 0
  | i + 1 => smN w l i + w.m.co (l.getD i 0)
def zN (w : Nw) (b : Int) : Nat := b.toNat % pw w.m.n
noncomputable def SN (w : Nw) : Nat := stN (laL w) (laL w).length
noncomputable def pr0 (w : Nw) (b : Int) (set : Nat) (sum : Int) (l : List (Nat × SV)) : List (Nat × SV) := (1, ou8 b) :: (2, .ptr 0 0 0) :: (5, lstI (laL w)) :: (6, i6 (laC w)) :: (7, i6 (laE w)) :: (8, lstI (muL w)) :: (9, i6 (laE w)) :: (10, i6 set) :: (11, i6 sum) :: l
noncomputable def enoL (w : Nw) (b : Int) : Nat → Option HSpec :=
  twoL 0 (natH (fun i => i ≤ (laL w).length ∧ okNet w) (fun i => (laL w).length - i) 1 (fun i => mkF 284 (pr0 w b (stN (laL w) i) (smN w (laL w) i) [(12, i6 i)])) (fun _ => mkX [vr 4 w.sv]) fun _ => none) <|
  twoL 2 (natH (fun k => k ≤ w.m.n ∧ okNet w) (fun k => w.m.n - k) 1 (fun k => mkF 284 (pr0 w b (SN w) (laC w) [(13, i6 (zN w b)), (14, i6 (cosN w.m (cut (hs (zN w b))) k)), (15, i6 k)])) (fun _ => mkX [vr 4 w.sv]) fun _ => none) <|
  oneL 4 (natH (fun i => i ≤ (muL w).length ∧ okNet w ∧ laE w = 0) (fun i => (muL w).length - i) 1 (fun i => mkF 284 [(2, .ptr 0 0 0), (8, lstI (muL w)), (10, i6 (SN w)), (13, i6 (zN w b)), (18, i6 (FtE (wL w (cut (hs (zN w b)))))), (22, i6 i)]) (fun _ => mkX [vr 4 w.sv]) fun _ => none)
noncomputable def csEno : CSpec := ctrsF [layCtr 18, musCtr 20, witC] (ctrs [bigC, aliveC, vnetC 23, hasC, FltC])
noncomputable def enoG (w : Nw) (b : Int) : Prop := funH Try.prog csEno noX (ictrs []) (enoL w b) noL 8 [w.sv, ou8 b] (.bool true)
end Go.Proofs.Ytpannbkmpbioiaa

set_option maxRecDepth 100000
namespace Go.Proofs.Ytpannbkmpbioiaa
open Go Go.Lg
def enoG0 (w : Nw) (b : Int) (z : Nat) : Prop := ((↑z : Int) < (↑(muL w).length : Int) → (0 : Int) ≤ (↑z : Int) ∧ (↑z : Int) < (↑(muL w).length : Int) ∧ ((↑((muL w).getD (↑z : Int).toNat (0 : Nat)) : Int) < (0 : Int) → false = true ∧ True) ∧ (¬(↑((muL w).getD (↑z : Int).toNat (0 : Nat)) : Int) < (0 : Int) → (0 : Int) ≤ (↑z : Int) ∧ (↑z : Int) < (↑(muL w).length : Int) ∧ (0 : Nat) < (1 : Nat) ∧ ((↑w.m.1 : Int) ≤ (↑((muL w).getD (↑z : Int).toNat (0 : Nat)) : Int) → false = true ∧ True) ∧ (¬(↑w.m.1 : Int) ≤ (↑((muL w).getD (↑z : Int).toNat (0 : Nat)) : Int) → ((0 : Int) < (↑z : Int) → (0 : Int) ≤ (↑z : Int) ∧ (↑z : Int) < (↑(muL w).length : Int) ∧ rI ((↑z : Int) - (1 : Int)) ∧ (0 : Int) ≤ (↑z : Int) - (1 : Int) ∧ (↑z : Int) - (1 : Int) < (↑(muL w).length : Int) ∧ ((↑((muL w).getD (↑z : Int).toNat (0 : Nat)) : Int) ≤ (↑((muL w).getD ((↑z : Int) - (1 : Int)).toNat (0 : Nat)) : Int) → false = true ∧ True) ∧ (¬(↑((muL w).getD (↑z : Int).toNat (0 : Nat)) : Int) ≤ (↑((muL w).getD ((↑z : Int) - (1 : Int)).toNat (0 : Nat)) : Int) → (0 : Int) ≤ (↑z : Int) ∧ (↑z : Int) < (↑(muL w).length : Int) ∧ (((0 : Int) ≤ (↑(SN w) : Int) ∧ (↑(SN w) : Int) ≤ (1099511627776 : Int)) ∧ (0 : Int) ≤ (↑((muL w).getD (↑z : Int).toNat (0 : Nat)) : Int) ∧ (↑((muL w).getD (↑z : Int).toNat (0 : Nat)) : Int) ≤ (40 : Int)) ∧ (¬hs (↑(SN w) : Int).toNat (↑((muL w).getD (↑z : Int).toNat (0 : Nat)) : Int).toNat → false = true ∧ True) ∧ (¬¬hs (↑(SN w) : Int).toNat (↑((muL w).getD (↑z : Int).toNat (0 : Nat)) : Int).toNat → (FtE (wL w (cut (hs (zN w b)))) = (4 : Int) → (0 : Int) ≤ (↑z : Int) ∧ (↑z : Int) < (↑(muL w).length : Int) ∧ (((0 : Int) ≤ (↑(zN w b) : Int) ∧ (↑(zN w b) : Int) ≤ (1099511627776 : Int)) ∧ (0 : Int) ≤ (↑((muL w).getD (↑z : Int).toNat (0 : Nat)) : Int) ∧ (↑((muL w).getD (↑z : Int).toNat (0 : Nat)) : Int) ≤ (40 : Int)) ∧ (¬hs (↑(zN w b) : Int).toNat (↑((muL w).getD (↑z : Int).toNat (0 : Nat)) : Int).toNat → false = true ∧ True) ∧ (¬¬hs (↑(zN w b) : Int).toNat (↑((muL w).getD (↑z : Int).toNat (0 : Nat)) : Int).toNat → rI ((↑z : Int) + (1 : Int)) ∧ ∃ z_1, (z_1 ≤ (muL w).length ∧ okNet w ∧ laE w = (0 : Int)) ∧ (muL w).length - z_1 < (muL w).length - z ∧ rE (0 : Nat) ∧ rE (0 : Nat) ∧ rE ((muL w).length) ∧ (∀ (i : Nat), i < (muL w).length → rE ((i6 (↑((muL w).getD i (0 : Nat)) : Int)).den) ∧ True) ∧ rE (↑(SN w) : Int) ∧ rE (↑(zN w b) : Int) ∧ rE (FtE (wL w (cut (hs (zN w b))))) ∧ (↑z : Int) + (1 : Int) = (↑z_1 : Int) ∧ w.1 = w.1 ∧ w.2 = w.2 ∧ rE w.j.1 ∧ (∀ (i : Nat), i < w.j.1 → rE ((SV.agg [i6 (w.j.nl i), i6 (w.j.nh i), i6 (w.j.le i), i6 (w.j.mo i), i6 (w.j.go i)]).den) ∧ True ∧ True ∧ True ∧ True ∧ True ∧ True) ∧ rE w.m.1 ∧ (∀ (i : Nat), i < w.m.1 → rE ((SV.agg [i6 (w.m.fr i), i6 (w.m.dr i), i6 (w.m.va i), i6 (w.m.co i)]).den) ∧ True ∧ True ∧ True ∧ True ∧ True) ∧ True)) ∧ (¬FtE (wL w (cut (hs (zN w b)))) = (4 : Int) → rI ((↑z : Int) + (1 : Int)) ∧ ∃ z_1, (z_1 ≤ (muL w).length ∧ okNet w ∧ laE w = (0 : Int)) ∧ (muL w).length - z_1 < (muL w).length - z ∧ rE (0 : Nat) ∧ rE (0 : Nat) ∧ rE ((muL w).length) ∧ (∀ (i : Nat), i < (muL w).length → rE ((i6 (↑((muL w).getD i (0 : Nat)) : Int)).den) ∧ True) ∧ rE (↑(SN w) : Int) ∧ rE (↑(zN w b) : Int) ∧ rE (FtE (wL w (cut (hs (zN w b))))) ∧ (↑z : Int) + (1 : Int) = (↑z_1 : Int) ∧ w.1 = w.1 ∧ w.2 = w.2 ∧ rE w.j.1 ∧ (∀ (i : Nat), i < w.j.1 → rE ((SV.agg [i6 (w.j.nl i), i6 (w.j.nh i), i6 (w.j.le i), i6 (w.j.mo i), i6 (w.j.go i)]).den) ∧ True ∧ True ∧ True ∧ True ∧ True ∧ True) ∧ rE w.m.1 ∧ (∀ (i : Nat), i < w.m.1 → rE ((SV.agg [i6 (w.m.fr i), i6 (w.m.dr i), i6 (w.m.va i), i6 (w.m.co i)]).den) ∧ True ∧ True ∧ True ∧ True ∧ True) ∧ True)))) ∧ (¬(0 : Int) < (↑z : Int) → (0 : Int) ≤ (↑z : Int) ∧ (↑z : Int) < (↑(muL w).length : Int) ∧ (((0 : Int) ≤ (↑(SN w) : Int) ∧ (↑(SN w) : Int) ≤ (1099511627776 : Int)) ∧ (0 : Int) ≤ (↑((muL w).getD (↑z : Int).toNat (0 : Nat)) : Int) ∧ (↑((muL w).getD (↑z : Int).toNat (0 : Nat)) : Int) ≤ (40 : Int)) ∧ (¬hs (↑(SN w) : Int).toNat (↑((muL w).getD (↑z : Int).toNat (0 : Nat)) : Int).toNat → false = true ∧ True) ∧ (¬¬hs (↑(SN w) : Int).toNat (↑((muL w).getD (↑z : Int).toNat (0 : Nat)) : Int).toNat → (FtE (wL w (cut (hs (zN w b)))) = (4 : Int) → (0 : Int) ≤ (↑z : Int) ∧ (↑z : Int) < (↑(muL w).length : Int) ∧ (((0 : Int) ≤ (↑(zN w b) : Int) ∧ (↑(zN w b) : Int) ≤ (1099511627776 : Int)) ∧ (0 : Int) ≤ (↑((muL w).getD (↑z : Int).toNat (0 : Nat)) : Int) ∧ (↑((muL w).getD (↑z : Int).toNat (0 : Nat)) : Int) ≤ (40 : Int)) ∧ (¬hs (↑(zN w b) : Int).toNat (↑((muL w).getD (↑z : Int).toNat (0 : Nat)) : Int).toNat → false = true ∧ True) ∧ (¬¬hs (↑(zN w b) : Int).toNat (↑((muL w).getD (↑z : Int).toNat (0 : Nat)) : Int).toNat → rI ((↑z : Int) + (1 : Int)) ∧ ∃ z_1, (z_1 ≤ (muL w).length ∧ okNet w ∧ laE w = (0 : Int)) ∧ (muL w).length - z_1 < (muL w).length - z ∧ rE (0 : Nat) ∧ rE (0 : Nat) ∧ rE ((muL w).length) ∧ (∀ (i : Nat), i < (muL w).length → rE ((i6 (↑((muL w).getD i (0 : Nat)) : Int)).den) ∧ True) ∧ rE (↑(SN w) : Int) ∧ rE (↑(zN w b) : Int) ∧ rE (FtE (wL w (cut (hs (zN w b))))) ∧ (↑z : Int) + (1 : Int) = (↑z_1 : Int) ∧ w.1 = w.1 ∧ w.2 = w.2 ∧ rE w.j.1 ∧ (∀ (i : Nat), i < w.j.1 → rE ((SV.agg [i6 (w.j.nl i), i6 (w.j.nh i), i6 (w.j.le i), i6 (w.j.mo i), i6 (w.j.go i)]).den) ∧ True ∧ True ∧ True ∧ True ∧ True ∧ True) ∧ rE w.m.1 ∧ (∀ (i : Nat), i < w.m.1 → rE ((SV.agg [i6 (w.m.fr i), i6 (w.m.dr i), i6 (w.m.va i), i6 (w.m.co i)]).den) ∧ True ∧ True ∧ True ∧ True ∧ True) ∧ True)) ∧ (¬FtE (wL w (cut (hs (zN w b)))) = (4 : Int) → rI ((↑z : Int) + (1 : Int)) ∧ ∃ z_1, (z_1 ≤ (muL w).length ∧ okNet w ∧ laE w = (0 : Int)) ∧ (muL w).length - z_1 < (muL w).length - z ∧ rE (0 : Nat) ∧ rE (0 : Nat) ∧ rE ((muL w).length) ∧ (∀ (i : Nat), i < (muL w).length → rE ((i6 (↑((muL w).getD i (0 : Nat)) : Int)).den) ∧ True) ∧ rE (↑(SN w) : Int) ∧ rE (↑(zN w b) : Int) ∧ rE (FtE (wL w (cut (hs (zN w b))))) ∧ (↑z : Int) + (1 : Int) = (↑z_1 : Int) ∧ w.1 = w.1 ∧ w.2 = w.2 ∧ rE w.j.1 ∧ (∀ (i : Nat), i < w.j.1 → rE ((SV.agg [i6 (w.j.nl i), i6 (w.j.nh i), i6 (w.j.le i), i6 (w.j.mo i), i6 (w.j.go i)]).den) ∧ True ∧ True ∧ True ∧ True ∧ True ∧ True) ∧ rE w.m.1 ∧ (∀ (i : Nat), i < w.m.1 → rE ((SV.agg [i6 (w.m.fr i), i6 (w.m.dr i), i6 (w.m.va i), i6 (w.m.co i)]).den) ∧ True ∧ True ∧ True ∧ True ∧ True) ∧ True))))))
def enoG1 (w : Nw) (b : Int) (z : Nat) : Prop := (∃ z, (z ≤ (muL w).length ∧ okNet w ∧ laE w = (0 : Int)) ∧ rE (0 : Nat) ∧ rE (0 : Nat) ∧ rE ((muL w).length) ∧ (∀ (i : Nat), i < (muL w).length → rE ((i6 (↑((muL w).getD i (0 : Nat)) : Int)).den) ∧ True) ∧ rE (↑(SN w) : Int) ∧ rE (↑(zN w b) : Int) ∧ FtE (wL w (cut (hs (↑(zN w b) : Int).toNat))) = FtE (wL w (cut (hs (zN w b)))) ∧ (0 : Int) = (↑z : Int) ∧ w.1 = w.1 ∧ w.2 = w.2 ∧ rE w.j.1 ∧ (∀ (i : Nat), i < w.j.1 → rE ((SV.agg [i6 (w.j.nl i), i6 (w.j.nh i), i6 (w.j.le i), i6 (w.j.mo i), i6 (w.j.go i)]).den) ∧ True ∧ True ∧ True ∧ True ∧ True ∧ True) ∧ rE w.m.1 ∧ (∀ (i : Nat), i < w.m.1 → rE ((SV.agg [i6 (w.m.fr i), i6 (w.m.dr i), i6 (w.m.va i), i6 (w.m.co i)]).den) ∧ True ∧ True ∧ True ∧ True ∧ True) ∧ True)
def enoG2 (w : Nw) : Prop := (∀ (i : Nat), i < w.j.1 → rE ((SV.agg [i6 (w.j.nl i), i6 (w.j.nh i), i6 (w.j.le i), i6 (w.j.mo i), i6 (w.j.go i)]).den) ∧ True ∧ True ∧ True ∧ True ∧ True ∧ True)
def enoG3 (w : Nw) : Prop := (∀ (i : Nat), i < w.m.1 → rE ((SV.agg [i6 (w.m.fr i), i6 (w.m.dr i), i6 (w.m.va i), i6 (w.m.co i)]).den) ∧ True ∧ True ∧ True ∧ True ∧ True)
def enoG4 (w : Nw) : Prop := (∀ (i : Nat), i < w.j.1 → True ∧ True ∧ True ∧ True ∧ True ∧ True)
def enoG5 (w : Nw) : Prop := (∀ (i : Nat), i < (laL w).length → rE ((i6 (↑((laL w).getD i (0 : Nat)) : Int)).den) ∧ True)
def enoG6 (w : Nw) : Prop := (∀ (i : Nat), i < (muL w).length → rE ((i6 (↑((muL w).getD i (0 : Nat)) : Int)).den) ∧ True)
def enoG7 (w : Nw) : Prop := (laE w = (1 : Int) → (rE (laE w) → ((↑(laL w).length : Int) = (0 : Int) → (laC w = (0 : Int) → ((↑(muL w).length : Int) = (0 : Int) → rE true ∧ True) ∧ (¬(↑(muL w).length : Int) = (0 : Int) → false = true ∧ True)) ∧ (¬laC w = (0 : Int) → false = true ∧ True)) ∧ (¬(↑(laL w).length : Int) = (0 : Int) → false = true ∧ True)) ∧ (¬laE w = laE w → false = true ∧ True))
theorem enoG_vc (w : Nw) (b : Int) : enoG w b =
 ((0 : Nat) < (1 : Nat) ∧ (enoG4 w) ∧ (∀ (i : Nat), i < w.m.1 → True ∧ True ∧ True ∧ True ∧ True) ∧ rE w.sv ∧ (bigP w (8 : Int) → rE true ∧ True) ∧ (¬bigP w (8 : Int) → (0 : Nat) < (1 : Nat) ∧ (enoG4 w) ∧ (∀ (i : Nat), i < w.m.1 → True ∧ True ∧ True ∧ True ∧ True) ∧ rE w.sv ∧ (0 : Nat) < (1 : Nat) ∧ (enoG4 w) ∧ (∀ (i : Nat), i < w.m.1 → True ∧ True ∧ True ∧ True ∧ True) ∧ rE w.sv ∧ (laE w = (1 : Int) → (enoG7 w) ∧ (¬laE w = (1 : Int) → false = true ∧ True)) ∧ (¬laE w = (1 : Int) → (0 : Nat) < (1 : Nat) ∧ (enoG4 w) ∧ (∀ (i : Nat), i < w.m.1 → True ∧ True ∧ True ∧ True ∧ True) ∧ rE w.sv ∧ (¬okNet w → (enoG7 w) ∧ (¬laE w = (1 : Int) → false = true ∧ True)) ∧ (¬¬okNet w → (∃ z, (z ≤ (laL w).length ∧ okNet w) ∧ b = b ∧ rE (0 : Nat) ∧ rE (0 : Nat) ∧ rE ((laL w).length) ∧ (enoG5 w) ∧ rE (laC w) ∧ rE (laE w) ∧ rE ((muL w).length) ∧ (enoG6 w) ∧ rE (laE w) ∧ (0 : Int) = (↑(stN (laL w) z) : Int) ∧
 (0 : Int) = smN w (laL w) z ∧ (0 : Int) = (↑z : Int) ∧ w.1 = w.1 ∧ w.2 = w.2 ∧ rE w.j.1 ∧ (enoG2 w) ∧ rE w.m.1 ∧ (enoG3 w) ∧ True) ∧ ∀ (z : Nat), z ≤ (laL w).length ∧ okNet w → ((↑z : Int) < (↑(laL w).length : Int) → (0 : Int) ≤ (↑z : Int) ∧ (↑z : Int) < (↑(laL w).length : Int) ∧ ((↑((laL w).getD (↑z : Int).toNat (0 : Nat)) : Int) < (0 : Int) → false = true ∧ True) ∧ (¬(↑((laL w).getD (↑z : Int).toNat (0 : Nat)) : Int) < (0 : Int) → (0 : Int) ≤ (↑z : Int) ∧ (↑z : Int) < (↑(laL w).length : Int) ∧ (0 : Nat) < (1 : Nat) ∧ ((↑w.m.1 : Int) ≤ (↑((laL w).getD (↑z : Int).toNat (0 : Nat)) : Int) → false = true ∧ True) ∧ (¬(↑w.m.1 : Int) ≤ (↑((laL w).getD (↑z : Int).toNat (0 : Nat)) : Int) → ((0 : Int) < (↑z : Int) → (0 : Int) ≤ (↑z : Int) ∧ (↑z : Int) < (↑(laL w).length : Int) ∧ rI ((↑z : Int) - (1 : Int)) ∧ (0 : Int) ≤ (↑z : Int) - (1 : Int) ∧ (↑z : Int) - (1 : Int) < (↑(laL w).length : Int) ∧
 ((↑((laL w).getD (↑z : Int).toNat (0 : Nat)) : Int) ≤ (↑((laL w).getD ((↑z : Int) - (1 : Int)).toNat (0 : Nat)) : Int) → false = true ∧ True) ∧ (¬(↑((laL w).getD (↑z : Int).toNat (0 : Nat)) : Int) ≤ (↑((laL w).getD ((↑z : Int) - (1 : Int)).toNat (0 : Nat)) : Int) → (0 : Int) ≤ (↑z : Int) ∧ (↑z : Int) < (↑(laL w).length : Int) ∧ ((0 : Int) ≤ (↑((laL w).getD (↑z : Int).toNat (0 : Nat)) : Int) ∧ (↑((laL w).getD (↑z : Int).toNat (0 : Nat)) : Int) ≤ (↑(64 : Nat) : Int)) ∧ rI ((1 : Int) * shP (↑((laL w).getD (↑z : Int).toNat (0 : Nat)) : Int)) ∧ rI ((↑(stN (laL w) z) : Int) + (1 : Int) * shP (↑((laL w).getD (↑z : Int).toNat (0 : Nat)) : Int)) ∧ (0 : Nat) < (1 : Nat) ∧ (0 : Int) ≤ (↑z : Int) ∧ (↑z : Int) < (↑(laL w).length : Int) ∧ (0 : Int) ≤ (↑((laL w).getD (↑z : Int).toNat (0 : Nat)) : Int) ∧ (↑((laL w).getD (↑z : Int).toNat (0 : Nat)) : Int) < (↑w.m.1 : Int) ∧ rI (smN w (laL w) z + w.m.5
 (↑((laL w).getD (↑z : Int).toNat (0 : Nat)) : Int).toNat) ∧ rI ((↑z : Int) + (1 : Int)) ∧ ∃ z_1, (z_1 ≤ (laL w).length ∧ okNet w) ∧ (laL w).length - z_1 < (laL w).length - z ∧ b = b ∧ rE (0 : Nat) ∧ rE (0 : Nat) ∧ rE ((laL w).length) ∧ (enoG5 w) ∧ rE (laC w) ∧ rE (laE w) ∧ rE ((muL w).length) ∧ (enoG6 w) ∧ rE (laE w) ∧ (↑(stN (laL w) z) : Int) + (1 : Int) * shP (↑((laL w).getD (↑z : Int).toNat (0 : Nat)) : Int) = (↑(stN (laL w) z_1) : Int) ∧ smN w (laL w) z + w.m.5 (↑((laL w).getD (↑z : Int).toNat (0 : Nat)) : Int).toNat = smN w (laL w) z_1 ∧ (↑z : Int) + (1 : Int) = (↑z_1 : Int) ∧ w.1 = w.1 ∧ w.2 = w.2 ∧ rE w.j.1 ∧ (enoG2 w) ∧ rE w.m.1 ∧ (enoG3 w) ∧ True)) ∧ (¬(0 : Int) < (↑z : Int) → (0 : Int) ≤ (↑z : Int) ∧ (↑z : Int) < (↑(laL w).length : Int) ∧ ((0 : Int) ≤ (↑((laL w).getD (↑z : Int).toNat (0 : Nat)) : Int) ∧ (↑((laL w).getD (↑z : Int).toNat (0 : Nat)) : Int) ≤ (↑(64 : Nat) : Int))
 ∧ rI ((1 : Int) * shP (↑((laL w).getD (↑z : Int).toNat (0 : Nat)) : Int)) ∧ rI ((↑(stN (laL w) z) : Int) + (1 : Int) * shP (↑((laL w).getD (↑z : Int).toNat (0 : Nat)) : Int)) ∧ (0 : Nat) < (1 : Nat) ∧ (0 : Int) ≤ (↑z : Int) ∧ (↑z : Int) < (↑(laL w).length : Int) ∧ (0 : Int) ≤ (↑((laL w).getD (↑z : Int).toNat (0 : Nat)) : Int) ∧ (↑((laL w).getD (↑z : Int).toNat (0 : Nat)) : Int) < (↑w.m.1 : Int) ∧ rI (smN w (laL w) z + w.m.5 (↑((laL w).getD (↑z : Int).toNat (0 : Nat)) : Int).toNat) ∧ rI ((↑z : Int) + (1 : Int)) ∧ ∃ z_1, (z_1 ≤ (laL w).length ∧ okNet w) ∧ (laL w).length - z_1 < (laL w).length - z ∧ b = b ∧ rE (0 : Nat) ∧ rE (0 : Nat) ∧ rE ((laL w).length) ∧ (enoG5 w) ∧ rE (laC w) ∧ rE (laE w) ∧ rE ((muL w).length) ∧ (enoG6 w) ∧ rE (laE w) ∧ (↑(stN (laL w) z) : Int) + (1 : Int) * shP (↑((laL w).getD (↑z : Int).toNat (0 : Nat)) : Int) = (↑(stN (laL w) z_1) : Int) ∧ smN w (laL w) z + w.m.5
 (↑((laL w).getD (↑z : Int).toNat (0 : Nat)) : Int).toNat = smN w (laL w) z_1 ∧ (↑z : Int) + (1 : Int) = (↑z_1 : Int) ∧ w.1 = w.1 ∧ w.2 = w.2 ∧ rE w.j.1 ∧ (enoG2 w) ∧ rE w.m.1 ∧ (enoG3 w) ∧ True)))) ∧ (¬(↑z : Int) < (↑(laL w).length : Int) → rI (b) ∧ (0 : Nat) < (1 : Nat) ∧ ((0 : Int) ≤ (↑w.m.1 : Int) ∧ (↑w.m.1 : Int) ≤ (↑(64 : Nat) : Int)) ∧ rI ((1 : Int) * shP (↑w.m.1 : Int)) ∧ ((1 : Int) * shP (↑w.m.1 : Int) = (0 : Int) → False) ∧ (∃ z_1, (z_1 ≤ w.m.1 ∧ okNet w) ∧ b = b ∧ rE (0 : Nat) ∧ rE (0 : Nat) ∧ rE ((laL w).length) ∧ (enoG5 w) ∧ rE (laC w) ∧ rE (laE w) ∧ rE ((muL w).length) ∧ (enoG6 w) ∧ rE (laE w) ∧ (↑(stN (laL w) z) : Int) = (↑(SN w) : Int) ∧ smN w (laL w) z = laC w ∧ b.tmod ((1 : Int) * shP (↑w.m.1 : Int)) = (↑(zN w b) : Int) ∧ (0 : Int) = cosN w.m (cut (hs (zN w b))) z_1 ∧ (0 : Int) = (↑z_1 : Int) ∧ w.1 = w.1 ∧ w.2 = w.2 ∧ rE w.j.1 ∧ (enoG2 w) ∧ rE w.m.1 ∧ (enoG3 w) ∧ True)
 ∧ ∀ (z : Nat), z ≤ w.m.1 ∧ okNet w → (0 : Nat) < (1 : Nat) ∧ ((↑z : Int) < (↑w.m.1 : Int) → (((0 : Int) ≤ (↑(zN w b) : Int) ∧ (↑(zN w b) : Int) ≤ (1099511627776 : Int)) ∧ (0 : Int) ≤ (↑z : Int) ∧ (↑z : Int) ≤ (40 : Int)) ∧ (hs (↑(zN w b) : Int).toNat (↑z : Int).toNat → (0 : Nat) < (1 : Nat) ∧ (0 : Int) ≤ (↑z : Int) ∧ (↑z : Int) < (↑w.m.1 : Int) ∧ rI (cosN w.m (cut (hs (zN w b))) z + w.m.5 (↑z : Int).toNat) ∧ rI ((↑z : Int) + (1 : Int)) ∧ ∃ z_1, (z_1 ≤ w.m.1 ∧ okNet w) ∧ w.m.1 - z_1 < w.m.1 - z ∧ b = b ∧ rE (0 : Nat) ∧ rE (0 : Nat) ∧ rE ((laL w).length) ∧ (enoG5 w) ∧ rE (laC w) ∧ rE (laE w) ∧ rE ((muL w).length) ∧ (enoG6 w) ∧ rE (laE w) ∧ rE (↑(SN w) : Int) ∧ rE (laC w) ∧ rE (↑(zN w b) : Int) ∧ cosN w.m (cut (hs (zN w b))) z + w.m.5 (↑z : Int).toNat = cosN w.m (cut (hs (zN w b))) z_1 ∧ (↑z : Int) + (1 : Int) = (↑z_1 : Int) ∧ w.1 = w.1 ∧ w.2 = w.2 ∧ rE w.j.1 ∧ (enoG2 w) ∧ rE w.m.1 ∧
 (enoG3 w) ∧ True) ∧ (¬hs (↑(zN w b) : Int).toNat (↑z : Int).toNat → rI ((↑z : Int) + (1 : Int)) ∧ ∃ z_1, (z_1 ≤ w.m.1 ∧ okNet w) ∧ w.m.1 - z_1 < w.m.1 - z ∧ b = b ∧ rE (0 : Nat) ∧ rE (0 : Nat) ∧ rE ((laL w).length) ∧ (enoG5 w) ∧ rE (laC w) ∧ rE (laE w) ∧ rE ((muL w).length) ∧ (enoG6 w) ∧ rE (laE w) ∧ rE (↑(SN w) : Int) ∧ rE (laC w) ∧ rE (↑(zN w b) : Int) ∧ cosN w.m (cut (hs (zN w b))) z = cosN w.m (cut (hs (zN w b))) z_1 ∧ (↑z : Int) + (1 : Int) = (↑z_1 : Int) ∧ w.1 = w.1 ∧ w.2 = w.2 ∧ rE w.j.1 ∧ (enoG2 w) ∧ rE w.m.1 ∧ (enoG3 w) ∧ True)) ∧ (¬(↑z : Int) < (↑w.m.1 : Int) → (0 : Nat) < (1 : Nat) ∧ (enoG4 w) ∧ (∀ (i : Nat), i < w.m.1 → True ∧ True ∧ True ∧ True ∧ True) ∧ rE w.sv ∧ ((0 : Int) ≤ (↑(zN w b) : Int) ∧ (↑(zN w b) : Int) ≤ (1099511627776 : Int)) ∧ w.m.1 ≤ (8 : Nat) ∧ d5 w.m ∧ (enoG4 w) ∧ (∀ (i : Nat), i < w.m.1 → True ∧ True ∧ True ∧ True ∧ True) ∧ rE ((wL w (cut (hs (↑(zN w b) :
 Int).toNat))).sv) ∧ (¬laE w = (0 : Int) → (laE w = (4 : Int) → (rE (laE w) → ((↑(laL w).length : Int) = (0 : Int) → (laC w = (0 : Int) → ((↑(muL w).length : Int) = (0 : Int) → (FtE (wL w (cut (hs (↑(zN w b) : Int).toNat))) = (0 : Int) → rE true ∧ True) ∧ (¬FtE (wL w (cut (hs (↑(zN w b) : Int).toNat))) = (0 : Int) → false = true ∧ True)) ∧ (¬(↑(muL w).length : Int) = (0 : Int) → false = true ∧ True)) ∧ (¬laC w = (0 : Int) → false = true ∧ True)) ∧ (¬(↑(laL w).length : Int) = (0 : Int) → false = true ∧ True)) ∧ (¬laE w = laE w → false = true ∧ True)) ∧ (¬laE w = (4 : Int) → false = true ∧ True)) ∧ (¬¬laE w = (0 : Int) → (0 : Nat) < (1 : Nat) ∧ (enoG4 w) ∧ (∀ (i : Nat), i < w.m.1 → True ∧ True ∧ True ∧ True ∧ True) ∧ rE w.sv ∧ ((0 : Int) ≤ (↑(SN w) : Int) ∧ (↑(SN w) : Int) ≤ (1099511627776 : Int)) ∧ w.m.1 ≤ (8 : Nat) ∧ d5 w.m ∧ (enoG4 w) ∧ (∀ (i : Nat), i < w.m.1 → True ∧ True ∧ True ∧
 True ∧ True) ∧ rE ((wL w (cut (hs (↑(SN w) : Int).toNat))).sv) ∧ (¬laE w = (0 : Int) → false = true ∧ True) ∧ (¬¬laE w = (0 : Int) → (¬FtE (wL w (cut (hs (↑(SN w) : Int).toNat))) = (4 : Int) → false = true ∧ True) ∧ (¬¬FtE (wL w (cut (hs (↑(SN w) : Int).toNat))) = (4 : Int) → (¬laC w = laC w → false = true ∧ True) ∧ (¬¬laC w = laC w → (FtE (wL w (cut (hs (↑(zN w b) : Int).toNat))) = (4 : Int) → (cosN w.m (cut (hs (zN w b))) z < laC w → false = true ∧ True) ∧ (¬cosN w.m (cut (hs (zN w b))) z < laC w → (cosN w.m (cut (hs (zN w b))) z = laC w → ((↑(zN w b) : Int) < (↑(SN w) : Int) → false = true ∧ True) ∧ (¬(↑(zN w b) : Int) < (↑(SN w) : Int) → (enoG1 w b z) ∧ ∀ (z : Nat), z ≤ (muL w).length ∧ okNet w ∧ laE w = (0 : Int) → (enoG0 w b z) ∧ (¬(↑z : Int) < (↑(muL w).length : Int) → rE true ∧ True))) ∧ (¬cosN w.m (cut (hs (zN w b))) z = laC w → (enoG1 w b z) ∧ ∀ (z : Nat), z ≤ (muL w).length ∧
 okNet w ∧ laE w = (0 : Int) → (enoG0 w b z) ∧ (¬(↑z : Int) < (↑(muL w).length : Int) → rE true ∧ True)))) ∧ (¬FtE (wL w (cut (hs (↑(zN w b) : Int).toNat))) = (4 : Int) → (enoG1 w b z) ∧ ∀ (z : Nat), z ≤ (muL w).length ∧ okNet w ∧ laE w = (0 : Int) → (enoG0 w b z) ∧ (¬(↑z : Int) < (↑(muL w).length : Int) → rE true ∧ True)))))))))))) := by kernel_rfl
end Go.Proofs.Ytpannbkmpbioiaa

set_option maxRecDepth 100000
namespace Go.Proofs.Ytpannbkmpbioiaa
open Go Go.Lg
attribute [local irreducible] funS bodyH
theorem fil_srt {p : Nat → Prop} : ∀ {k i : Nat}, i < (fiL p k).length → (fiL p k).getD i 0 < k ∧ p ((fiL p k).getD i 0) ∧ (0 < i → (fiL p k).getD (i - 1) 0 < (fiL p k).getD i 0)
  | 0, i, h => by simp [fiL] at h
  | k + 1, i, h => by
    by_cases hp : p k
    · rw [fil_y hp] at h ⊢
      simp only [List.length_append, List.length_singleton] at h
      have ea : ∀ j, j < (fiL p k).length → (fiL p k ++ [k]).getD j 0 = (fiL p k).getD j 0 := fun j hj => by simp [List.getD, List.getElem?_append_left hj]
      by_cases hi : i < (fiL p k).length
      · have ih := fil_srt (p := p) (k := k) hi
        rw [ea i hi]
        refine ⟨by omega, ih.2.1, fun h0 => ?_⟩
        rw [ea (i - 1) (by omega)]
        exact ih.2.2 h0
      · have e : i = (fiL p k).length := by omega
        have eg : (fiL p k ++ [k]).getD i 0 = k := by rw [e]; simp [List.getD]
        rw [eg]
        refine ⟨by omega, hp, fun h0 => ?_⟩
        rw [ea (i - 1) (by omega)]
        exact (fil_srt (p := p) (k := k) (i := i - 1) (by omega)).1
    · rw [fil_n hp] at h ⊢
      have ih := fil_srt (p := p) (k := k) h
      exact ⟨by omega, ih.2⟩
theorem fil_mono {p : Nat → Prop} {k i : Nat} : ∀ {j : Nat}, i ≤ j → j < (fiL p k).length → (fiL p k).getD i 0 ≤ (fiL p k).getD j 0
  | 0, h, hj => by have : i = 0 := by omega
                   subst this; exact Nat.le_refl _
  | j + 1, h, hj => by
    by_cases e : i = j + 1
    · subst e; exact Nat.le_refl _
    · have ih := fil_mono (p := p) (k := k) (i := i) (j := j) (by omega) (by omega)
      have := (fil_srt (p := p) (k := k) hj).2.2 (by omega)
      simp only [Nat.add_sub_cancel] at this
      omega
theorem st_app {l m : List Nat} : ∀ {i : Nat}, i ≤ l.length → stN (l ++ m) i = stN l i
  | 0, _ => rfl
  | i + 1, h => by
    have ih := st_app (l := l) (m := m) (i := i) (by omega)
    have e : (l ++ m).getD i 0 = l.getD i 0 := by simp [List.getD, List.getElem?_append_left (show i < l.length by omega)]
    simp only [stN, ih, e]
theorem sm_app {w : Nw} {l m : List Nat} : ∀ {i : Nat}, i ≤ l.length → smN w (l ++ m) i = smN w l i
  | 0, _ => rfl
  | i + 1, h => by
    have ih := sm_app (w := w) (l := l) (m := m) (i := i) (by omega)
    have e : (l ++ m).getD i 0 = l.getD i 0 := by simp [List.getD, List.getElem?_append_left (show i < l.length by omega)]
    simp only [smN, ih, e]
theorem st_fil {b : Nat} : ∀ k : Nat, stN (fiL (hs b) k) (fiL (hs b) k).length = b % pw k
  | 0 => by simp [fiL, stN, pw, Nat.mod_one]
  | k + 1 => by
    have ih := st_fil (b := b) k
    have e := Nat.mod_pow_succ (x := b) (b := 2) (k := k)
    by_cases h : hs b k
    · rw [fil_y h, List.length_append, List.length_singleton]
      simp only [stN]
      rw [st_app (Nat.le_refl _), ih]
      have e2 : (fiL (hs b) k ++ [k]).getD (fiL (hs b) k).length 0 = k := by simp [List.getD]
      rw [e2]
      unfold hs at h
      unfold pw
      rw [e, h]; omega
    · rw [fil_n h, ih]
      have h0 : b / 2 ^ k % 2 = 0 := by unfold hs at h; omega
      unfold pw
      rw [e, h0]; omega
theorem sm_fil {w : Nw} {p : Nat → Prop} : ∀ k : Nat, smN w (fiL p k) (fiL p k).length = cosN w.m p k
  | 0 => by simp [fiL, smN, cosN]
  | k + 1 => by
    have ih := sm_fil (w := w) (p := p) k
    by_cases h : p k
    · rw [fil_y h, List.length_append, List.length_singleton]
      simp only [smN]
      rw [sm_app (Nat.le_refl _), ih, cos_y h]
      have e2 : (fiL p k ++ [k]).getD (fiL p k).length 0 = k := by simp [List.getD]
      rw [e2]
    · rw [fil_n h, ih, cos_n h]
theorem st_mono {l : List Nat} {i : Nat} : ∀ {j : Nat}, i ≤ j → stN l i ≤ stN l j
  | 0, h => by have : i = 0 := by omega
               subst this; exact Nat.le_refl _
  | j + 1, h => by
    by_cases e : i = j + 1
    · subst e; exact Nat.le_refl _
    · have := st_mono (l := l) (i := i) (j := j) (by omega)
      simp only [stN]; omega
theorem le_min (f : Nat → Int) : ∀ {k : Nat}, 0 < k → leI f k < k ∧ ∀ i, i < k → f (leI f k) ≤ f i ∧ (f i = f (leI f k) → leI f k ≤ i)
  | 0, h => by omega
  | 1, _ => by
    have e : leI f 1 = 0 := by simp [leI]
    rw [e]
    refine ⟨by omega, fun i hi => ?_⟩
    have : i = 0 := by omega
    subst this
    exact ⟨by omega, fun _ => Nat.le_refl _⟩
  | k + 2, _ => by
    obtain ⟨h1, h2⟩ := le_min f (k := k + 1) (by omega)
    rw [leI]
    by_cases hc : k + 1 = 0 ∨ f (k + 1) < f (leI f (k + 1))
    · rw [if_pos hc]
      refine ⟨by omega, fun i hi => ?_⟩
      rcases hc with hc | hc
      · omega
      by_cases e : i = k + 1
      · subst e; exact ⟨by omega, fun _ => Nat.le_refl _⟩
      · have := h2 i (by omega)
        exact ⟨by omega, fun x => by omega⟩
    · rw [if_neg hc]
      refine ⟨by omega, fun i hi => ?_⟩
      by_cases e : i = k + 1
      · subst e
        exact ⟨by omega, fun _ => by omega⟩
      · exact h2 i (by omega)
structure lawF (w : Nw) (b : Int) : Prop where
  n : w.m.n ≤ 8
  m : m5 w.m
  L : ∀ i, i < (laL w).length → (laL w).getD i 0 < w.m.n ∧ (0 < i → (laL w).getD (i - 1) 0 < (laL w).getD i 0)
  L8 : (laL w).length ≤ 8
  st : ∀ i, i ≤ (laL w).length → stN (laL w) i ≤ 255
  sm : ∀ i, i ≤ (laL w).length → 0 ≤ smN w (laL w) i ∧ smN w (laL w) i ≤ 1000000 * (i : Int)
  smE : smN w (laL w) (laL w).length = laC w
  z : zN w b < pw w.m.n
  E : laE w = 0 ∨ laE w = 4
  e4 : laE w = 4 → laL w = [] ∧ laC w = 0 ∧ muL w = [] ∧ FtE (wL w (cut (hs (zN w b)))) = 0
  e0 : laE w = 0 → FtE (wL w (cut (hs (SN w)))) = 4
  g : laE w = 0 → FtE (wL w (cut (hs (zN w b)))) = 4 → laC w ≤ cosN w.m (cut (hs (zN w b))) w.m.n ∧ (cosN w.m (cut (hs (zN w b))) w.m.n = laC w → SN w ≤ zN w b)
  M8 : (muL w).length ≤ 8
  M : ∀ i, i < (muL w).length → (muL w).getD i 0 < w.m.n ∧ (0 < i → (muL w).getD (i - 1) 0 < (muL w).getD i 0) ∧ (laE w = 0 → hs (SN w) ((muL w).getD i 0) ∧ (FtE (wL w (cut (hs (zN w b)))) = 4 → hs (zN w b) ((muL w).getD i 0)))
theorem ft_e {w : Nw} (hw : okNet w) (b : Nat) : (FtE (wL w (cut (hs b))) = 4 ↔ eP w b) ∧ (FtE (wL w (cut (hs b))) = 0 ↔ ¬ eP w b) := by
  have h := erP_eP hw b
  unfold erP at h
  have hk := okNet_wL hw (cut (hs b))
  unfold eP FtE
  rw [if_pos hk]
  constructor
  · by_cases h : ftI (wL w (cut (hs b))) <;> simp [h]
  · by_cases h : ftI (wL w (cut (hs b))) <;> simp [h]
theorem law_facts {w : Nw} {b : Int} (hw : okNet w) : lawF w b := by
  have hn := ok_n hw
  have hm := ok_m5 hw
  have hz : zN w b < pw w.m.n := Nat.mod_lt _ (pw_pos _)
  have hE : laE w = if (enL w).length = 0 then 4 else 0 := by rw [laE, if_pos hw]
  by_cases h0 : (enL w).length = 0
  · have e : laE w = 4 := by rw [hE, if_pos h0]
    have eL : laL w = [] := by rw [laL, if_neg (by omega)]
    have eC : laC w = 0 := by rw [laC, if_neg (by omega)]
    have eM : muL w = [] := by rw [muL, if_neg (by omega)]
    refine ⟨hn, hm, fun i hi => by simp [eL] at hi, by simp [eL], fun i hi => ?_, fun i hi => ?_, by simp [eL, eC, smN], hz, .inr e, fun _ => ⟨eL, eC, eM, ?_⟩, fun h => by omega, fun h => by omega, by simp [eM], fun i hi => by simp [eM] at hi⟩
    · have : i = 0 := by simpa [eL] using hi
      subst this; simp [stN]
    · have : i = 0 := by simpa [eL] using hi
      subst this; simp [smN]
    · rw [(ft_e hw _).2]
      intro hp
      have := (fil_at (p := eP w) hp hz).1
      unfold enL at h0
      omega
  · have e : laE w = 0 := by rw [hE, if_neg h0]
    have eB : bsN w (enL w).length = (enL w).getD (leI (cosL w) (enL w).length) 0 := by rw [bsN, if_neg (by omega)]
    obtain ⟨m1, m2⟩ := le_min (cosL w) (k := (enL w).length) (by omega)
    have hb := enL_lt w (leI (cosL w) (enL w).length)
    have hS : bsN w (enL w).length < pw w.m.n := by rw [eB]; exact hb
    have eL : laL w = fiL (cut (hs (bsN w (enL w).length))) w.m.n := by
      rw [laL, if_pos e]
      exact fil_ext (fun k hk x => hs_big hS hk x.2) 8 hn
    have eL2 : laL w = fiL (hs (bsN w (enL w).length)) w.m.n := by
      rw [eL]
      exact fil_congr fun j hj => ⟨fun x => x.2, fun x => ⟨by omega, x⟩⟩
    have eC : laC w = cosN w.m (cut (hs (bsN w (enL w).length))) w.m.n := by rw [laC, if_pos e]
    have eS : SN w = bsN w (enL w).length := by
      unfold SN
      rw [eL2, st_fil, Nat.mod_eq_of_lt hS]
    have h256 := pw8 hn
    have eM : muL w = fiL (cut (cmP w (enL w).length)) 8 := by rw [muL, if_pos e]
    have hsm : ∀ i, i ≤ (laL w).length → 0 ≤ smN w (laL w) i ∧ smN w (laL w) i ≤ 1000000 * (i : Int) := by
      intro i
      induction i with
      | zero => intro _; simp [smN]
      | succ i ih =>
        intro hi
        have h1 := ih (by omega)
        have h2 : (laL w).getD i 0 < w.m.n := by
          rw [eL]; exact (fil_srt (by rw [← eL]; omega)).1
        have h3 := hm _ h2
        simp only [smN]
        omega
    have hEn : eP w (SN w) := by
      rw [eS, eB]
      exact (fil_srt (p := eP w) (k := pw w.m.n) (i := leI (cosL w) (enL w).length) m1).2.1
    refine ⟨hn, hm, fun i hi => ?_, ?_, fun i hi => ?_, hsm, ?_, hz, .inl e, fun h => by omega, fun _ => ((ft_e hw _).1).2 hEn, fun _ hg => ?_, ?_, fun i hi => ?_⟩
    · rw [eL] at hi ⊢
      have := fil_srt hi
      exact ⟨this.1, this.2.2⟩
    · have := fil_le (cut (hs (bsN w (enL w).length))) w.m.n
      rw [eL]; omega
    · have h1 := st_mono (l := laL w) hi
      have h2 : stN (laL w) (laL w).length = SN w := rfl
      omega
    · rw [eL, sm_fil, eC]
    · have hp := ((ft_e hw _).1).1 hg
      obtain ⟨g1, g2⟩ := fil_at (p := eP w) hp hz
      have g1 : (fiL (eP w) (zN w b)).length < (enL w).length := g1
      have g2 : (enL w).getD (fiL (eP w) (zN w b)).length 0 = zN w b := g2
      obtain ⟨k1, k2⟩ := m2 _ g1
      have c1 : cosL w (fiL (eP w) (zN w b)).length = cosN w.m (cut (hs (zN w b))) w.m.n := by unfold cosL; rw [g2]
      have c2 : cosL w (leI (cosL w) (enL w).length) = laC w := by rw [eC, eB]; rfl
      rw [c1, c2] at k1 k2
      refine ⟨k1, fun hc => ?_⟩
      have := k2 hc
      rw [eS, eB, ← g2]
      exact fil_mono this g1
    · have := fil_le (cut (cmP w (enL w).length)) 8
      rw [eM]; exact this
    · rw [eM] at hi
      have h1 := fil_srt hi
      rw [← eM] at h1
      obtain ⟨a1, a2, a3⟩ := h1
      have hS' : hs (SN w) ((muL w).getD i 0) := by rw [eS, eB]; exact a2.2.2 _ m1
      refine ⟨?_, a3, fun _ => ⟨hS', fun hg => ?_⟩⟩
      · apply Classical.byContradiction
        intro hx
        rw [eS] at hS'
        exact hs_big hS (by omega) hS'
      · have hp := ((ft_e hw _).1).1 hg
        obtain ⟨g1, g2⟩ := fil_at (p := eP w) hp hz
        have g2 : (enL w).getD (fiL (eP w) (zN w b)).length 0 = zN w b := g2
        have := a2.2.2 _ g1
        rwa [g2] at this
end Go.Proofs.Ytpannbkmpbioiaa

set_option maxRecDepth 100000
namespace Go.Proofs.Ytpannbkmpbioiaa
open Go Go.Lg
attribute [local irreducible] funS bodyH
theorem shP_pw (n : Nat) : shP (n : Int) = (pw n : Int) := by unfold shP pw; rw [Int.toNat_natCast]; simp
theorem eno_true {w : Nw} {b : Int} (hb : 0 ≤ b ∧ b < 256) : enoG w b := by
  rw [enoG_vc]
  simp only [enoG0, enoG1, enoG2, enoG3, enoG4, enoG5, enoG6, enoG7, rI, rE, tt3, tt4, tt5, tt13, tt14, and_true, true_and, Nat.zero_lt_one, and_self, implies_true, Int.toNat_natCast, Nat.zero_add, Nat.add_zero, Nat.one_mul, Nat.mul_one, Classical.not_not, iff_self, Bool.false_eq_true, imp_false, and_imp, lstI, true_implies, forall_const]
  intro _
  refine ⟨fun h1 => ?_, fun h1 => ⟨fun hno => absurd (by rw [laE, if_neg hno]) h1, fun hw => ?_⟩⟩
  · have eL : laL w = [] := by rw [laL, if_neg (by omega)]
    have eC : laC w = 0 := by rw [laC, if_neg (by omega)]
    have eM : muL w = [] := by rw [muL, if_neg (by omega)]
    simp [eL, eC, eM, h1]
  · have F := law_facts (b := b) hw
    have hn := F.n
    have hp := pw8 hn
    have hp0 := pw_pos w.m.n
    have hd := ok_d5 hw
    have hz := F.z
    have e0 : w.m.1 = w.m.n := rfl
    have hmod : b.tmod (1 * shP (w.m.n : Int)) = (zN w b : Nat) := by
      rw [shP_pw, Int.one_mul, Int.tmod_eq_emod_of_nonneg hb.1]
      unfold zN
      rw [Int.natCast_emod, Int.toNat_of_nonneg hb.1]
    have hS : SN w ≤ 255 := F.st _ (Nat.le_refl _)
    refine ⟨⟨0, ⟨by omega, hw⟩, rfl, rfl, rfl⟩, fun z hz1 _ => ⟨fun hl => ?_, fun hl => ?_⟩⟩
    · obtain ⟨f1, f2⟩ := F.L z (by omega)
      have hx : (laL w).getD z 0 < 8 := by omega
      have hs8 : shP ((laL w).getD z 0 : Nat) = (pw ((laL w).getD z 0) : Nat) := shP_pw _
      have hs9 : pw ((laL w).getD z 0) ≤ 256 := pw8 (by omega)
      have hst := F.st z hz1
      have hsm := F.sm z hz1
      have hco := F.m _ f1
      have L8 := F.L8
      rw [hs8]
      have fin : (0 : Int) ≤ (z : Int) ∧ (z : Int) < ((laL w).length : Int) ∧ ((0 : Int) ≤ ((laL w).getD z 0 : Nat) ∧ (((laL w).getD z 0 : Nat) : Int) ≤ ((64 : Nat) : Int)) := ⟨by omega, hl, by omega, by omega⟩
      have nx : ∃ z_1 : Nat, (z_1 ≤ (laL w).length ∧ okNet w) ∧ (laL w).length - z_1 < (laL w).length - z ∧ ((stN (laL w) z : Nat) : Int) + 1 * ((pw ((laL w).getD z 0) : Nat) : Int) = (stN (laL w) z_1 : Nat) ∧ smN w (laL w) z + w.m.co ((laL w).getD z 0) = smN w (laL w) z_1 ∧ (z : Int) + 1 = z_1 := ⟨z + 1, ⟨by omega, hw⟩, by omega, by simp only [stN]; omega, rfl, by omega⟩
      refine ⟨by omega, hl, by omega, fun _ => ⟨by omega, hl, by omega, fun _ => ⟨fun h0 => ⟨by omega, hl, by omega, by omega, by omega, ?_, fun _ => ⟨by omega, hl, by omega, by omega, by omega, by omega, hl, by omega, by omega, by omega, by omega, nx⟩⟩, fun h0 => ⟨by omega, hl, by omega, by omega, by omega, by omega, hl, by omega, by omega, by omega, by omega, nx⟩⟩⟩⟩
      have := f2 (by omega)
      rw [show ((z : Int) - 1).toNat = z - 1 by omega]
      omega
    · have ez : z = (laL w).length := by omega
      rw [ez, hmod]
      refine ⟨by omega, by omega, by rw [shP_pw]; omega, by rw [shP_pw]; omega, ⟨0, ⟨by omega, hw⟩, rfl, F.smE, rfl, rfl, rfl⟩, fun k hk _ => ⟨fun hkl => ⟨by omega, fun hh => ?_, fun hh => ?_⟩, fun hkl => ?_⟩⟩
      · have hc : cut (hs (zN w b)) k := ⟨by omega, hh⟩
        have c1 := cosN_le (p := cut (hs (zN w b))) F.m k hk
        have c2 := F.m k (by omega)
        exact ⟨by omega, hkl, by omega, by omega, k + 1, ⟨by omega, hw⟩, by omega, (cos_y hc).symm, by omega⟩
      · exact ⟨by omega, k + 1, ⟨by omega, hw⟩, by omega, (cos_n fun x => hh x.2).symm, by omega⟩
      · have ek : k = w.m.n := by omega
        rw [ek]
        refine ⟨by omega, hn, hd, fun h0 => ?_, fun h0 => ⟨by omega, hn, hd, h0, fun _ => ⟨F.e0 h0, fun _ => ⟨fun hg => ⟨?_, fun _ => ⟨fun he => ⟨?_, fun _ => ?_⟩, fun he => ?_⟩⟩, fun hg => ?_⟩⟩⟩⟩
        · have h4 : laE w = 4 := F.E.resolve_left h0
          obtain ⟨x1, x2, x3, x4⟩ := F.e4 h4
          simp [x1, x2, x3, x4, h4]
        · have := (F.g h0 hg).1
          omega
        · have := (F.g h0 hg).2 he
          omega
        all_goals
          refine ⟨⟨0, ⟨by omega, hw, h0⟩, rfl⟩, fun i hi _ _ hil => ?_⟩
          obtain ⟨f1, f2, f3⟩ := F.M i (by omega)
          obtain ⟨f3, f4⟩ := f3 h0
          have M8 := F.M8
          have nx : ((-9223372036854775808 : Int) ≤ (i : Int) + 1 ∧ (i : Int) + 1 ≤ 9223372036854775807) ∧ ∃ z_1 : Nat, (z_1 ≤ (muL w).length ∧ okNet w ∧ laE w = 0) ∧ (muL w).length - z_1 < (muL w).length - i ∧ (i : Int) + 1 = z_1 := ⟨by omega, i + 1, ⟨by omega, hw, h0⟩, by omega, by omega⟩
          refine ⟨by omega, hil, by omega, fun _ => ⟨by omega, hil, by omega, fun _ => ⟨fun h0 => ⟨by omega, hil, by omega, by omega, by omega, ?_, fun _ => ⟨by omega, hil, by omega, f3, fun _ => ⟨fun hg => ⟨by omega, hil, by omega, f4 hg, fun _ => nx⟩, fun _ => nx⟩⟩⟩, fun h0 => ⟨by omega, hil, by omega, f3, fun _ => ⟨fun hg => ⟨by omega, hil, by omega, f4 hg, fun _ => nx⟩, fun _ => nx⟩⟩⟩⟩⟩
          have := f2 (by omega)
          rw [show ((i : Int) - 1).toNat = i - 1 by omega]
          omega
end Go.Proofs.Ytpannbkmpbioiaa
