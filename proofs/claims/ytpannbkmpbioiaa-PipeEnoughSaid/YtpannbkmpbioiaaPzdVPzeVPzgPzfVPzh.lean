import Derived.Test.YtpannbkmpbioiaaPzaPzaVPzbPzcPzcV
set_option linter.unusedVariables false
set_option linter.unusedSimpArgs false
set_option maxRecDepth 100000
namespace Go.Proofs.Ytpannbkmpbioiaa
open Go Go.Lg
theorem cheG_vc (w : Nw) : cheG w = ((0 : Nat) < (1 : Nat) ∧ (∀ (i : Nat), i < w.j.1 → True ∧ True ∧ True ∧ True ∧ True ∧ True) ∧ (∀ (i : Nat), i < w.m.1 → True ∧ True ∧ True ∧ True ∧ True) ∧ w.sv = w.sv ∧ (∀ (i : Nat), i < w.j.1 → True ∧ True ∧ True ∧ True ∧ True ∧ True) ∧ (∀ (i : Nat), i < w.m.1 → True ∧ True ∧ True ∧ True ∧ True) ∧ w.sv = w.sv ∧ okNet w ∧ ((True ∧ True ∧ (∀ (i : Nat), i < w.j.1 → True ∧ True ∧ True ∧ True ∧ True ∧ True) ∧ (∀ (i : Nat), i < w.m.1 → True ∧ True ∧ True ∧ True ∧ True) ∧ True) ∧ ∃ (z : Nat), (z = (0 : Nat) ∧ True) ∧ (0 : Nat) = (0 : Nat) ∧ (0 : Nat) = (0 : Nat) ∧ (0 : Nat) = (0 : Nat) ∧ (0 : Nat) = (0 : Nat) ∧ (0 : Nat) = (0 : Nat) ∧ (0 : Nat) = (0 : Nat) ∧ Fn.func (88 : FuncId) = Fn.func (88 : FuncId) ∧ SV.denL (cells' w.sv) = SV.denL [SV.int IntKind.i64 w.s0, SV.int IntKind.i64 w.s1, w.j.sv, w.m.sv] ∧ (True ∧ True ∧ (∀ (i : Nat), i < w.j.1 → True ∧ True ∧ True ∧ True ∧ True ∧ True) ∧ (∀ (i : Nat), i < w.m.1 → True ∧ True ∧ True ∧ True ∧ True) ∧ True) ∧ w.1 = w.1 ∧ w.2 = w.2 ∧ w.j.1 = w.j.1 ∧ (∀ (i : Nat), i < w.j.1 → (SV.agg [i6 (w.j.nl i), i6 (w.j.nh i), i6 (w.j.le i), i6 (w.j.mo i), i6 (w.j.go i)]).den = (SV.agg [i6 (w.j.nl i), i6 (w.j.nh i), i6 (w.j.le i), i6 (w.j.mo i), i6 (w.j.go i)]).den ∧ True ∧ True ∧ True ∧ True ∧ True ∧ True) ∧ w.m.1 = w.m.1 ∧ (∀ (i : Nat), i < w.m.1 → (SV.agg [i6 (w.m.fr i), i6 (w.m.dr i), i6 (w.m.va i), i6 (w.m.co i)]).den = (SV.agg [i6 (w.m.fr i), i6 (w.m.dr i), i6 (w.m.va i), i6 (w.m.co i)]).den ∧ True ∧ True ∧ True ∧ True ∧ True) ∧ (false = true ↔ hs (bsN w z) (0 : Nat)) ∧ (false = true ↔ hs (bsN w z) (1 : Nat)) ∧ (false = true ↔ hs (bsN w z) (2 : Nat)) ∧ (false = true ↔ hs (bsN w z) (3 : Nat)) ∧ (false = true ↔ hs (bsN w z) (4 : Nat)) ∧ (false = true ↔ hs (bsN w z) (5 : Nat)) ∧
 (false = true ↔ hs (bsN w z) (6 : Nat)) ∧ (false = true ↔ hs (bsN w z) (7 : Nat)) ∧ (false = true ↔ (1 : Nat) ≤ z) ∧ True) ∧ (∀ (j : Nat), j < (enL w).length → ∀ (z : Nat), z = j ∧ True → (0 : Nat) < (1 : Nat) ∧ (¬(1 : Nat) ≤ z → (0 : Nat) < (1 : Nat) ∧ ∃ (z : Nat), (z = j.succ ∧ True) ∧ w.1 = w.1 ∧ w.2 = w.2 ∧ w.j.1 = w.j.1 ∧ (∀ (i : Nat), i < w.j.1 → (SV.agg [i6 (w.j.nl i), i6 (w.j.nh i), i6 (w.j.le i), i6 (w.j.mo i), i6 (w.j.go i)]).den = (SV.agg [i6 (w.j.nl i), i6 (w.j.nh i), i6 (w.j.le i), i6 (w.j.mo i), i6 (w.j.go i)]).den ∧ True ∧ True ∧ True ∧ True ∧ True ∧ True) ∧ w.m.1 = w.m.1 ∧ (∀ (i : Nat), i < w.m.1 → (SV.agg [i6 (w.m.fr i), i6 (w.m.dr i), i6 (w.m.va i), i6 (w.m.co i)]).den = (SV.agg [i6 (w.m.fr i), i6 (w.m.dr i), i6 (w.m.va i), i6 (w.m.co i)]).den ∧ True ∧ True ∧ True ∧ True ∧ True) ∧ (hs ((enL w).getD j (0 : Nat)) (0 : Nat) ↔ hs (bsN w z) (0 : Nat)) ∧ (hs ((enL w).getD j (0 : Nat)) (1 : Nat) ↔ hs (bsN w z) (1 : Nat)) ∧ (hs ((enL w).getD j (0 : Nat)) (2 : Nat) ↔ hs (bsN w z) (2 : Nat)) ∧ (hs ((enL w).getD j (0 : Nat)) (3 : Nat) ↔ hs (bsN w z) (3 : Nat)) ∧ (hs ((enL w).getD j (0 : Nat)) (4 : Nat) ↔ hs (bsN w z) (4 : Nat)) ∧ (hs ((enL w).getD j (0 : Nat)) (5 : Nat) ↔ hs (bsN w z) (5 : Nat)) ∧ (hs ((enL w).getD j (0 : Nat)) (6 : Nat) ↔ hs (bsN w z) (6 : Nat)) ∧ (hs ((enL w).getD j (0 : Nat)) (7 : Nat) ↔ hs (bsN w z) (7 : Nat)) ∧ (true = true ↔ (1 : Nat) ≤ z) ∧ True) ∧ (¬¬(1 : Nat) ≤ z → (0 : Nat) < (1 : Nat) ∧ (0 : Nat) < (1 : Nat) ∧ (∀ (i : Nat), i < w.m.1 → True ∧ True ∧ True ∧ True ∧ True) ∧ ((8 : Nat) = (8 : Nat) ∧ allB (stL (hs ((enL w).getD j (0 : Nat)))) = true) ∧ w.m.sv = w.m.sv ∧ w.m.1 ≤ (8 : Nat) ∧ m5 w.m ∧ (0 : Nat) < (1 : Nat) ∧ (0 : Nat) < (1 : Nat) ∧ (∀ (i : Nat), i < w.m.1 → True ∧ True ∧ True ∧ True ∧ True) ∧
 ((8 : Nat) = (8 : Nat) ∧ allB (stL (hs (bsN w z))) = true) ∧ w.m.sv = w.m.sv ∧ w.m.1 ≤ (8 : Nat) ∧ m5 w.m ∧ (cosN w.m (cut (cellD (stL (hs ((enL w).getD j (0 : Nat)))))) w.m.1 < cosN w.m (cut (cellD (stL (hs (bsN w z))))) w.m.1 → (0 : Nat) < (1 : Nat) ∧ ∃ (z : Nat), (z = j.succ ∧ True) ∧ w.1 = w.1 ∧ w.2 = w.2 ∧ w.j.1 = w.j.1 ∧ (∀ (i : Nat), i < w.j.1 → (SV.agg [i6 (w.j.nl i), i6 (w.j.nh i), i6 (w.j.le i), i6 (w.j.mo i), i6 (w.j.go i)]).den = (SV.agg [i6 (w.j.nl i), i6 (w.j.nh i), i6 (w.j.le i), i6 (w.j.mo i), i6 (w.j.go i)]).den ∧ True ∧ True ∧ True ∧ True ∧ True ∧ True) ∧ w.m.1 = w.m.1 ∧ (∀ (i : Nat), i < w.m.1 → (SV.agg [i6 (w.m.fr i), i6 (w.m.dr i), i6 (w.m.va i), i6 (w.m.co i)]).den = (SV.agg [i6 (w.m.fr i), i6 (w.m.dr i), i6 (w.m.va i), i6 (w.m.co i)]).den ∧ True ∧ True ∧ True ∧ True ∧ True) ∧ (hs ((enL w).getD j (0 : Nat)) (0 : Nat) ↔ hs (bsN w z) (0 : Nat)) ∧ (hs ((enL w).getD j (0 : Nat)) (1 : Nat) ↔ hs (bsN w z) (1 : Nat)) ∧ (hs ((enL w).getD j (0 : Nat)) (2 : Nat) ↔ hs (bsN w z) (2 : Nat)) ∧ (hs ((enL w).getD j (0 : Nat)) (3 : Nat) ↔ hs (bsN w z) (3 : Nat)) ∧ (hs ((enL w).getD j (0 : Nat)) (4 : Nat) ↔ hs (bsN w z) (4 : Nat)) ∧ (hs ((enL w).getD j (0 : Nat)) (5 : Nat) ↔ hs (bsN w z) (5 : Nat)) ∧ (hs ((enL w).getD j (0 : Nat)) (6 : Nat) ↔ hs (bsN w z) (6 : Nat)) ∧ (hs ((enL w).getD j (0 : Nat)) (7 : Nat) ↔ hs (bsN w z) (7 : Nat)) ∧ (true = true ↔ (1 : Nat) ≤ z) ∧ True) ∧ (¬cosN w.m (cut (cellD (stL (hs ((enL w).getD j (0 : Nat)))))) w.m.1 < cosN w.m (cut (cellD (stL (hs (bsN w z))))) w.m.1 → ∃ (z_1 : Nat), (z_1 = j.succ ∧ True) ∧ w.1 = w.1 ∧ w.2 = w.2 ∧ w.j.1 = w.j.1 ∧ (∀ (i : Nat), i < w.j.1 → (SV.agg [i6 (w.j.nl i), i6 (w.j.nh i), i6 (w.j.le i), i6 (w.j.mo i), i6 (w.j.go i)]).den = (SV.agg [i6 (w.j.nl i), i6 (w.j.nh i), i6 (w.j.le i), i6 (w.j.mo i),
 i6 (w.j.go i)]).den ∧ True ∧ True ∧ True ∧ True ∧ True ∧ True) ∧ w.m.1 = w.m.1 ∧ (∀ (i : Nat), i < w.m.1 → (SV.agg [i6 (w.m.fr i), i6 (w.m.dr i), i6 (w.m.va i), i6 (w.m.co i)]).den = (SV.agg [i6 (w.m.fr i), i6 (w.m.dr i), i6 (w.m.va i), i6 (w.m.co i)]).den ∧ True ∧ True ∧ True ∧ True ∧ True) ∧ (hs (bsN w z) (0 : Nat) ↔ hs (bsN w z_1) (0 : Nat)) ∧ (hs (bsN w z) (1 : Nat) ↔ hs (bsN w z_1) (1 : Nat)) ∧ (hs (bsN w z) (2 : Nat) ↔ hs (bsN w z_1) (2 : Nat)) ∧ (hs (bsN w z) (3 : Nat) ↔ hs (bsN w z_1) (3 : Nat)) ∧ (hs (bsN w z) (4 : Nat) ↔ hs (bsN w z_1) (4 : Nat)) ∧ (hs (bsN w z) (5 : Nat) ↔ hs (bsN w z_1) (5 : Nat)) ∧ (hs (bsN w z) (6 : Nat) ↔ hs (bsN w z_1) (6 : Nat)) ∧ (hs (bsN w z) (7 : Nat) ↔ hs (bsN w z_1) (7 : Nat)) ∧ ((1 : Nat) ≤ z ↔ (1 : Nat) ≤ z_1) ∧ True))) ∧ ∀ (z : Nat), z = (enL w).length ∧ True → ((0 : Nat) < (1 : Nat) ∧ ((0 : Nat) < (1 : Nat) ∧ (((0 : Nat) < (1 : Nat) ∧ (0 : Nat) < (1 : Nat) ∧ (hs (bsN w z) (0 : Nat) ↔ hs (bsN w (enL w).length) (0 : Nat)) ∧ (hs (bsN w z) (1 : Nat) ↔ hs (bsN w (enL w).length) (1 : Nat)) ∧ (hs (bsN w z) (2 : Nat) ↔ hs (bsN w (enL w).length) (2 : Nat)) ∧ (hs (bsN w z) (3 : Nat) ↔ hs (bsN w (enL w).length) (3 : Nat)) ∧ (hs (bsN w z) (4 : Nat) ↔ hs (bsN w (enL w).length) (4 : Nat)) ∧ (hs (bsN w z) (5 : Nat) ↔ hs (bsN w (enL w).length) (5 : Nat)) ∧ (hs (bsN w z) (6 : Nat) ↔ hs (bsN w (enL w).length) (6 : Nat)) ∧ (hs (bsN w z) (7 : Nat) ↔ hs (bsN w (enL w).length) (7 : Nat)) ∧ ((1 : Nat) ≤ z ↔ (1 : Nat) ≤ (enL w).length) ∧ True) ∧ True) ∧ True) ∧ (((0 : Nat) < (1 : Nat) ∧ ((0 : Nat) < (1 : Nat) ∧ (0 : Nat) < (1 : Nat) ∧ (hs (bsN w z) (0 : Nat) ↔ hs (bsN w (enL w).length) (0 : Nat)) ∧ (hs (bsN w z) (1 : Nat) ↔ hs (bsN w (enL w).length) (1 : Nat)) ∧ (hs (bsN w z) (2 : Nat) ↔ hs (bsN w (enL w).length) (2 : Nat)) ∧
 (hs (bsN w z) (3 : Nat) ↔ hs (bsN w (enL w).length) (3 : Nat)) ∧ (hs (bsN w z) (4 : Nat) ↔ hs (bsN w (enL w).length) (4 : Nat)) ∧ (hs (bsN w z) (5 : Nat) ↔ hs (bsN w (enL w).length) (5 : Nat)) ∧ (hs (bsN w z) (6 : Nat) ↔ hs (bsN w (enL w).length) (6 : Nat)) ∧ (hs (bsN w z) (7 : Nat) ↔ hs (bsN w (enL w).length) (7 : Nat)) ∧ ((1 : Nat) ≤ z ↔ (1 : Nat) ≤ (enL w).length) ∧ True) ∧ True) ∧ True) ∧ True) ∧ ((0 : Nat) < (1 : Nat) ∧ ((0 : Nat) < (1 : Nat) ∧ (((0 : Nat) < (1 : Nat) ∧ (0 : Nat) < (1 : Nat) ∧ (hs (bsN w z) (0 : Nat) ↔ hs (bsN w (enL w).length) (0 : Nat)) ∧ (hs (bsN w z) (1 : Nat) ↔ hs (bsN w (enL w).length) (1 : Nat)) ∧ (hs (bsN w z) (2 : Nat) ↔ hs (bsN w (enL w).length) (2 : Nat)) ∧ (hs (bsN w z) (3 : Nat) ↔ hs (bsN w (enL w).length) (3 : Nat)) ∧ (hs (bsN w z) (4 : Nat) ↔ hs (bsN w (enL w).length) (4 : Nat)) ∧ (hs (bsN w z) (5 : Nat) ↔ hs (bsN w (enL w).length) (5 : Nat)) ∧ (hs (bsN w z) (6 : Nat) ↔ hs (bsN w (enL w).length) (6 : Nat)) ∧ (hs (bsN w z) (7 : Nat) ↔ hs (bsN w (enL w).length) (7 : Nat)) ∧ ((1 : Nat) ≤ z ↔ (1 : Nat) ≤ (enL w).length) ∧ True) ∧ True) ∧ True) ∧ True) ∧ True) := by kernel_rfl
end Go.Proofs.Ytpannbkmpbioiaa

set_option maxRecDepth 100000
namespace Go.Proofs.Ytpannbkmpbioiaa
open Go Go.Lg
theorem layG_vc (w : Nw) : layG w = ((0 : Nat) < (1 : Nat) ∧ (∀ (i : Nat), i < w.j.1 → True ∧ True ∧ True ∧ True ∧ True ∧ True) ∧ (∀ (i : Nat), i < w.m.1 → True ∧ True ∧ True ∧ True ∧ True) ∧ w.sv = w.sv ∧ (¬okNet w → (0 : Nat) = (laL w).length ∧ (0 : Int) = laC w ∧ (1 : Int) = laE w ∧ True) ∧ (¬¬okNet w → (0 : Nat) < (1 : Nat) ∧ (∀ (i : Nat), i < w.j.1 → True ∧ True ∧ True ∧ True ∧ True ∧ True) ∧ (∀ (i : Nat), i < w.m.1 → True ∧ True ∧ True ∧ True ∧ True) ∧ w.sv = w.sv ∧ okNet w ∧ (¬(1 : Nat) ≤ (enL w).length → (0 : Nat) = (laL w).length ∧ (0 : Int) = laC w ∧ (4 : Int) = laE w ∧ True) ∧ (¬¬(1 : Nat) ≤ (enL w).length → (0 : Nat) < (1 : Nat) ∧ ((8 : Nat) = (8 : Nat) ∧ allB (stL (hs (bsN w (enL w).length))) = true) ∧ (0 : Nat) < (1 : Nat) ∧ (0 : Nat) < (1 : Nat) ∧ (∀ (i : Nat), i < w.m.1 → True ∧ True ∧ True ∧ True ∧ True) ∧ ((8 : Nat) = (8 : Nat) ∧ allB (stL (hs (bsN w (enL w).length))) = true) ∧ w.m.sv = w.m.sv ∧ w.m.1 ≤ (8 : Nat) ∧ m5 w.m ∧ (fiL (cut (cellD (stL (hs (bsN w (enL w).length))))) (8 : Nat)).length = (laL w).length ∧ (∀ (i : Nat), i < (laL w).length → (i6 (↑((fiL (cut (cellD (stL (hs (bsN w (enL w).length))))) (8 : Nat)).getD i (0 : Nat)) : Int)).den = (i6 (↑((laL w).getD i (0 : Nat)) : Int)).den ∧ True) ∧ cosN w.m (cut (cellD (stL (hs (bsN w (enL w).length))))) w.m.1 = laC w ∧ (0 : Int) = laE w ∧ True))) := by kernel_rfl
theorem musG_vc (w : Nw) : musG w = ((0 : Nat) < (1 : Nat) ∧ (∀ (i : Nat), i < w.j.1 → True ∧ True ∧ True ∧ True ∧ True ∧ True) ∧ (∀ (i : Nat), i < w.m.1 → True ∧ True ∧ True ∧ True ∧ True) ∧ w.sv = w.sv ∧ (¬okNet w → (0 : Nat) = (muL w).length ∧ (1 : Int) = laE w ∧ True) ∧ (¬¬okNet w → (0 : Nat) < (1 : Nat) ∧ (∀ (i : Nat), i < w.j.1 → True ∧ True ∧ True ∧ True ∧ True ∧ True) ∧ (∀ (i : Nat), i < w.m.1 → True ∧ True ∧ True ∧ True ∧ True) ∧ w.sv = w.sv ∧ okNet w ∧ (¬(1 : Nat) ≤ (enL w).length → (0 : Nat) = (muL w).length ∧ (4 : Int) = laE w ∧ True) ∧ (¬¬(1 : Nat) ≤ (enL w).length → (0 : Nat) < (1 : Nat) ∧ ((8 : Nat) = (8 : Nat) ∧ allB (stL (cmP w (enL w).length)) = true) ∧ (fiL (cut (cellD (stL (cmP w (enL w).length)))) (8 : Nat)).length = (muL w).length ∧ (∀ (i : Nat), i < (muL w).length → (i6 (↑((fiL (cut (cellD (stL (cmP w (enL w).length)))) (8 : Nat)).getD i (0 : Nat)) : Int)).den = (i6 (↑((muL w).getD i (0 : Nat)) : Int)).den ∧ True) ∧ (0 : Int) = laE w ∧ True))) := by kernel_rfl
end Go.Proofs.Ytpannbkmpbioiaa

set_option maxRecDepth 100000
namespace Go.Proofs.Ytpannbkmpbioiaa
open Go Go.Lg
attribute [local irreducible] funS bodyH
theorem enu_true {w : Nw} : enuG w := by
  rw [enuG_vc]
  simp only [and_true, true_and, Nat.zero_lt_one, and_self, implies_true]
theorem cut_stL (p : Nat → Prop) : cut (cellD (stL p)) = cut p := by
  funext k
  exact propext ⟨fun h => ⟨h.1, (cell8 p h.1).1 h.2⟩, fun h => ⟨h.1, (cell8 p h.1).2 h.2⟩⟩
theorem okNet_wL {w : Nw} (h : okNet w) (p : Nat → Prop) : okNet (wL w p) := by
  refine ⟨h.src, h.n, h.js, fun k hk => ?_⟩
  have := h.ms k hk
  refine ⟨this.fr, ?_, this.va, this.co⟩
  show 0 ≤ drP (p k) (w.m.dr k) ∧ drP (p k) (w.m.dr k) ≤ 1000
  have h2 := this.dr
  have e3 : (w.m.dr k + 1).tdiv 2 = (w.m.dr k + 1) / 2 := Int.tdiv_eq_ediv_of_nonneg (by omega)
  unfold drP
  split
  · rw [e3]; omega
  · exact h2
theorem ok_n {w : Nw} (h : okNet w) : w.m.n ≤ 8 := by have := h.n; omega
theorem ok_d5 {w : Nw} (h : okNet w) : d5 w.m := fun k hk => (h.ms k hk).dr
theorem ok_m5 {w : Nw} (h : okNet w) : m5 w.m := fun k hk => (h.ms k hk).co
theorem fil_at {p : Nat → Prop} {z : Nat} (hp : p z) : ∀ {n : Nat}, z < n → (fiL p z).length < (fiL p n).length ∧ (fiL p n).getD (fiL p z).length 0 = z
  | 0, h => by omega
  | n + 1, h => by
    by_cases e : z = n
    · subst e
      rw [fil_y hp]
      exact ⟨by simp, by simp [List.getD]⟩
    · obtain ⟨h1, h2⟩ := fil_at hp (n := n) (by omega)
      rw [fiL_succ]
      refine ⟨by simp only [List.length_append]; omega, ?_⟩
      have ea : ∀ l2 : List Nat, (fiL p n ++ l2).getD (fiL p z).length 0 = (fiL p n).getD (fiL p z).length 0 := fun l2 => by simp [List.getD, List.getElem?_append_left h1]
      rw [ea]; exact h2
theorem enI_true {w : Nw} (hw : okNet w) : enIG w := by
  rw [enIG_vc]
  simp only [and_true, true_and, Nat.zero_lt_one, and_self, implies_true, Int.toNat_natCast, Nat.zero_add, Nat.add_zero, Classical.not_not, Int.one_mul, cut_stL]
  have hn := ok_n hw
  have hp8 := pw8 hn
  have es : shP (w.m.n : Int) = (pw w.m.n : Int) := by unfold shP pw; rw [Int.toNat_natCast]; simp
  refine ⟨⟨by omega, by omega⟩, by rw [es]; omega, ⟨0, by omega, rfl, es, rfl⟩, fun z hz => ⟨fun hl => ⟨by omega, rfl, hn, ok_d5 hw, okNet_wL hw _, fun he => ?_, fun he => ?_⟩, fun hl => ?_⟩⟩
  · obtain ⟨g1, g2⟩ := fil_at (p := eP w) (z := z) he (n := pw w.m.n) (by omega)
    have g2 : (enL w).getD (fiL (eP w) z).length 0 = z := g2
    rw [g2]
    exact ⟨g1, Iff.rfl, Iff.rfl, Iff.rfl, Iff.rfl, Iff.rfl, Iff.rfl, Iff.rfl, Iff.rfl, by omega, z + 1, by omega, by omega, (fil_len (p := eP w) he).symm, by omega⟩
  · exact ⟨by omega, z + 1, by omega, by omega, by rw [fil_n (p := eP w) fun x => x he], by omega⟩
  · have : z = pw w.m.n := by omega
    rw [this]; rfl
theorem hs_0 (i : Nat) : ¬ hs 0 i := by unfold hs; simp
theorem hs_f (i : Nat) : false = true ↔ hs 0 i := ⟨fun h => by simp at h, fun h => absurd h (hs_0 i)⟩
theorem che_true {w : Nw} (hw : okNet w) : cheG w := by
  rw [cheG_vc]
  simp only [and_true, true_and, Nat.zero_lt_one, and_self, implies_true, Int.toNat_natCast, Nat.zero_add, Nat.add_zero, Classical.not_not, cut_stL]
  have hn := ok_n hw
  have hm := ok_m5 hw
  refine ⟨hw, ⟨0, rfl, rfl, hs_f 0, hs_f 1, hs_f 2, hs_f 3, hs_f 4, hs_f 5, hs_f 6, hs_f 7, by simp⟩, fun j hj z hz => ?_, fun z hz => ?_⟩
  · subst hz
    refine ⟨fun h0 => ⟨z + 1, rfl, ?_⟩, fun h0 => ⟨rfl, hn, hm, rfl, hn, hm, fun hc => ⟨z + 1, rfl, ?_⟩, fun hc => ⟨z + 1, rfl, ?_⟩⟩⟩
    · have e : bsN w (z + 1) = (enL w).getD z 0 := by
        rw [bsN, if_neg (by omega), leI, if_pos (.inl (by omega))]
      rw [e]
      exact ⟨Iff.rfl, Iff.rfl, Iff.rfl, Iff.rfl, Iff.rfl, Iff.rfl, Iff.rfl, Iff.rfl, ⟨fun _ => by omega, fun _ => trivial⟩⟩
    · have ez : bsN w z = (enL w).getD (leI (cosL w) z) 0 := by rw [bsN, if_neg (by omega)]
      have e : bsN w (z + 1) = (enL w).getD z 0 := by
        rw [ez] at hc
        rw [bsN, if_neg (by omega), leI, if_pos (.inr hc)]
      rw [e]
      exact ⟨Iff.rfl, Iff.rfl, Iff.rfl, Iff.rfl, Iff.rfl, Iff.rfl, Iff.rfl, Iff.rfl, ⟨fun _ => by omega, fun _ => trivial⟩⟩
    · have ez : bsN w z = (enL w).getD (leI (cosL w) z) 0 := by rw [bsN, if_neg (by omega)]
      have e : bsN w (z + 1) = bsN w z := by
        rw [ez] at hc ⊢
        rw [bsN, if_neg (by omega), leI, if_neg fun x => x.elim (fun x => by omega) hc]
      rw [e]
      exact ⟨Iff.rfl, Iff.rfl, Iff.rfl, Iff.rfl, Iff.rfl, Iff.rfl, Iff.rfl, Iff.rfl, ⟨fun _ => by omega, fun _ => h0⟩⟩
  · subst hz
    exact ⟨Iff.rfl, Iff.rfl, Iff.rfl, Iff.rfl, Iff.rfl, Iff.rfl, Iff.rfl, Iff.rfl, Iff.rfl⟩
theorem lay_true {w : Nw} : layG w := by
  rw [layG_vc]
  simp only [and_true, true_and, Nat.zero_lt_one, and_self, implies_true, Int.toNat_natCast, Nat.zero_add, Nat.add_zero, Classical.not_not, cut_stL]
  have Z : ∀ {e : Int}, ¬ e = 0 → laE w = e → 0 = (laL w).length ∧ 0 = laC w ∧ e = laE w := fun {e} h0 he => ⟨by rw [laL, if_neg (by omega)]; rfl, by rw [laC, if_neg (by omega)], he.symm⟩
  refine ⟨fun h => Z (by decide) (by rw [laE, if_neg h]), fun hw => ⟨hw, fun h => Z (by decide) (by rw [laE, if_pos hw, if_pos (by omega)]), fun h => ?_⟩⟩
  have e : laE w = 0 := by rw [laE, if_pos hw, if_neg (by omega)]
  have eL : laL w = fiL (cut (hs (bsN w (enL w).length))) 8 := by rw [laL, if_pos e]
  rw [eL]
  exact ⟨rfl, rfl, ok_n hw, ok_m5 hw, rfl, fun i _ => rfl, by rw [laC, if_pos e], e.symm⟩
theorem mus_true {w : Nw} : musG w := by
  rw [musG_vc]
  simp only [and_true, true_and, Nat.zero_lt_one, and_self, implies_true, Int.toNat_natCast, Nat.zero_add, Nat.add_zero, Classical.not_not, cut_stL]
  have Z : ∀ {e : Int}, ¬ e = 0 → laE w = e → 0 = (muL w).length ∧ e = laE w := fun {e} h0 he => ⟨by rw [muL, if_neg (by omega)]; rfl, he.symm⟩
  refine ⟨fun h => Z (by decide) (by rw [laE, if_neg h]), fun hw => ⟨hw, fun h => Z (by decide) (by rw [laE, if_pos hw, if_pos (by omega)]), fun h => ?_⟩⟩
  have e : laE w = 0 := by rw [laE, if_pos hw, if_neg (by omega)]
  have eL : muL w = fiL (cut (cmP w (enL w).length)) 8 := by rw [muL, if_pos e]
  rw [eL]
  exact ⟨rfl, rfl, fun i _ => rfl, e.symm⟩
end Go.Proofs.Ytpannbkmpbioiaa

set_option maxRecDepth 100000
namespace Go.Proofs.Ytpannbkmpbioiaa
open Go Go.Lg
theorem comG_vc (w : Nw) : comG w = ((0 : Nat) < (1 : Nat) ∧ (∀ (i : Nat), i < w.j.1 → True ∧ True ∧ True ∧ True ∧ True ∧ True) ∧ (∀ (i : Nat), i < w.m.1 → True ∧ True ∧ True ∧ True ∧ True) ∧ w.sv = w.sv ∧ (∀ (i : Nat), i < w.j.1 → True ∧ True ∧ True ∧ True ∧ True ∧ True) ∧ (∀ (i : Nat), i < w.m.1 → True ∧ True ∧ True ∧ True ∧ True) ∧ w.sv = w.sv ∧ okNet w ∧ ((True ∧ True ∧ (∀ (i : Nat), i < w.j.1 → True ∧ True ∧ True ∧ True ∧ True ∧ True) ∧ (∀ (i : Nat), i < w.m.1 → True ∧ True ∧ True ∧ True ∧ True) ∧ True) ∧ ∃ (z : Nat), (z = (0 : Nat) ∧ True) ∧ (0 : Nat) = (0 : Nat) ∧ (0 : Nat) = (0 : Nat) ∧ (0 : Nat) = (0 : Nat) ∧ (0 : Nat) = (0 : Nat) ∧ (0 : Nat) = (0 : Nat) ∧ (0 : Nat) = (0 : Nat) ∧ Fn.func (88 : FuncId) = Fn.func (88 : FuncId) ∧ SV.denL (cells' w.sv) = SV.denL [SV.int IntKind.i64 w.s0, SV.int IntKind.i64 w.s1, w.j.sv, w.m.sv] ∧ (True ∧ True ∧ (∀ (i : Nat), i < w.j.1 → True ∧ True ∧ True ∧ True ∧ True ∧ True) ∧ (∀ (i : Nat), i < w.m.1 → True ∧ True ∧ True ∧ True ∧ True) ∧ True) ∧ w.1 = w.1 ∧ w.2 = w.2 ∧ w.j.1 = w.j.1 ∧ (∀ (i : Nat), i < w.j.1 → (SV.agg [i6 (w.j.nl i), i6 (w.j.nh i), i6 (w.j.le i), i6 (w.j.mo i), i6 (w.j.go i)]).den = (SV.agg [i6 (w.j.nl i), i6 (w.j.nh i), i6 (w.j.le i), i6 (w.j.mo i), i6 (w.j.go i)]).den ∧ True ∧ True ∧ True ∧ True ∧ True ∧ True) ∧ w.m.1 = w.m.1 ∧ (∀ (i : Nat), i < w.m.1 → (SV.agg [i6 (w.m.fr i), i6 (w.m.dr i), i6 (w.m.va i), i6 (w.m.co i)]).den = (SV.agg [i6 (w.m.fr i), i6 (w.m.dr i), i6 (w.m.va i), i6 (w.m.co i)]).den ∧ True ∧ True ∧ True ∧ True ∧ True) ∧ (false = true ↔ cmP w z (0 : Nat)) ∧ (false = true ↔ cmP w z (1 : Nat)) ∧ (false = true ↔ cmP w z (2 : Nat)) ∧ (false = true ↔ cmP w z (3 : Nat)) ∧ (false = true ↔ cmP w z (4 : Nat)) ∧ (false = true ↔ cmP w z (5 : Nat)) ∧ (false = true ↔ cmP w z (6 : Nat)) ∧
 (false = true ↔ cmP w z (7 : Nat)) ∧ (false = true ↔ (1 : Nat) ≤ z) ∧ True) ∧ (∀ (j : Nat), j < (enL w).length → ∀ (z : Nat), z = j ∧ True → (0 : Nat) < (1 : Nat) ∧ (¬(1 : Nat) ≤ z → (0 : Nat) < (1 : Nat) ∧ (0 : Nat) < (1 : Nat) ∧ (0 : Nat) < (1 : Nat) ∧ ((8 : Nat) = (8 : Nat) ∧ allB (stL (hs ((enL w).getD j (0 : Nat)))) = true) ∧ ((8 : Nat) = (8 : Nat) ∧ allB (stL (hs ((enL w).getD j (0 : Nat)))) = true) ∧ (0 : Nat) < (1 : Nat) ∧ (eqB [dP (cut (cellD (stL (hs ((enL w).getD j (0 : Nat))))) (0 : Nat) ∧ cut (cellD (stL (hs ((enL w).getD j (0 : Nat))))) (0 : Nat)), dP (cut (cellD (stL (hs ((enL w).getD j (0 : Nat))))) (1 : Nat) ∧ cut (cellD (stL (hs ((enL w).getD j (0 : Nat))))) (1 : Nat)), dP (cut (cellD (stL (hs ((enL w).getD j (0 : Nat))))) (2 : Nat) ∧ cut (cellD (stL (hs ((enL w).getD j (0 : Nat))))) (2 : Nat)), dP (cut (cellD (stL (hs ((enL w).getD j (0 : Nat))))) (3 : Nat) ∧ cut (cellD (stL (hs ((enL w).getD j (0 : Nat))))) (3 : Nat)), dP (cut (cellD (stL (hs ((enL w).getD j (0 : Nat))))) (4 : Nat) ∧ cut (cellD (stL (hs ((enL w).getD j (0 : Nat))))) (4 : Nat)), dP (cut (cellD (stL (hs ((enL w).getD j (0 : Nat))))) (5 : Nat) ∧ cut (cellD (stL (hs ((enL w).getD j (0 : Nat))))) (5 : Nat)), dP (cut (cellD (stL (hs ((enL w).getD j (0 : Nat))))) (6 : Nat) ∧ cut (cellD (stL (hs ((enL w).getD j (0 : Nat))))) (6 : Nat)), dP (cut (cellD (stL (hs ((enL w).getD j (0 : Nat))))) (7 : Nat) ∧ cut (cellD (stL (hs ((enL w).getD j (0 : Nat))))) (7 : Nat))] (ofS (Value.agg #[Value.bool false, Value.bool false, Value.bool false, Value.bool false, Value.bool false, Value.bool false, Value.bool false, Value.bool false])).cells → ((0 : Nat) < (1 : Nat) ∧ ((0 : Nat) < (1 : Nat) ∧ (((0 : Nat) < (1 : Nat) ∧ (0 : Nat) < (1 : Nat) ∧ (cut (cellD (stL (hs ((enL w).getD j (0 : Nat)))))
 (0 : Nat) ∧ cut (cellD (stL (hs ((enL w).getD j (0 : Nat))))) (0 : Nat) ↔ cmP w (enL w).length (0 : Nat)) ∧ (cut (cellD (stL (hs ((enL w).getD j (0 : Nat))))) (1 : Nat) ∧ cut (cellD (stL (hs ((enL w).getD j (0 : Nat))))) (1 : Nat) ↔ cmP w (enL w).length (1 : Nat)) ∧ (cut (cellD (stL (hs ((enL w).getD j (0 : Nat))))) (2 : Nat) ∧ cut (cellD (stL (hs ((enL w).getD j (0 : Nat))))) (2 : Nat) ↔ cmP w (enL w).length (2 : Nat)) ∧ (cut (cellD (stL (hs ((enL w).getD j (0 : Nat))))) (3 : Nat) ∧ cut (cellD (stL (hs ((enL w).getD j (0 : Nat))))) (3 : Nat) ↔ cmP w (enL w).length (3 : Nat)) ∧ (cut (cellD (stL (hs ((enL w).getD j (0 : Nat))))) (4 : Nat) ∧ cut (cellD (stL (hs ((enL w).getD j (0 : Nat))))) (4 : Nat) ↔ cmP w (enL w).length (4 : Nat)) ∧ (cut (cellD (stL (hs ((enL w).getD j (0 : Nat))))) (5 : Nat) ∧ cut (cellD (stL (hs ((enL w).getD j (0 : Nat))))) (5 : Nat) ↔ cmP w (enL w).length (5 : Nat)) ∧ (cut (cellD (stL (hs ((enL w).getD j (0 : Nat))))) (6 : Nat) ∧ cut (cellD (stL (hs ((enL w).getD j (0 : Nat))))) (6 : Nat) ↔ cmP w (enL w).length (6 : Nat)) ∧ (cut (cellD (stL (hs ((enL w).getD j (0 : Nat))))) (7 : Nat) ∧ cut (cellD (stL (hs ((enL w).getD j (0 : Nat))))) (7 : Nat) ↔ cmP w (enL w).length (7 : Nat)) ∧ (true = true ↔ (1 : Nat) ≤ (enL w).length) ∧ True) ∧ True) ∧ True) ∧ (((0 : Nat) < (1 : Nat) ∧ ((0 : Nat) < (1 : Nat) ∧ (0 : Nat) < (1 : Nat) ∧ (cut (cellD (stL (hs ((enL w).getD j (0 : Nat))))) (0 : Nat) ∧ cut (cellD (stL (hs ((enL w).getD j (0 : Nat))))) (0 : Nat) ↔ cmP w (enL w).length (0 : Nat)) ∧ (cut (cellD (stL (hs ((enL w).getD j (0 : Nat))))) (1 : Nat) ∧ cut (cellD (stL (hs ((enL w).getD j (0 : Nat))))) (1 : Nat) ↔ cmP w (enL w).length (1 : Nat)) ∧ (cut (cellD (stL (hs ((enL w).getD j (0 : Nat))))) (2 : Nat) ∧ cut (cellD (stL (hs ((enL w).getD j (0 : Nat)))))
 (2 : Nat) ↔ cmP w (enL w).length (2 : Nat)) ∧ (cut (cellD (stL (hs ((enL w).getD j (0 : Nat))))) (3 : Nat) ∧ cut (cellD (stL (hs ((enL w).getD j (0 : Nat))))) (3 : Nat) ↔ cmP w (enL w).length (3 : Nat)) ∧ (cut (cellD (stL (hs ((enL w).getD j (0 : Nat))))) (4 : Nat) ∧ cut (cellD (stL (hs ((enL w).getD j (0 : Nat))))) (4 : Nat) ↔ cmP w (enL w).length (4 : Nat)) ∧ (cut (cellD (stL (hs ((enL w).getD j (0 : Nat))))) (5 : Nat) ∧ cut (cellD (stL (hs ((enL w).getD j (0 : Nat))))) (5 : Nat) ↔ cmP w (enL w).length (5 : Nat)) ∧ (cut (cellD (stL (hs ((enL w).getD j (0 : Nat))))) (6 : Nat) ∧ cut (cellD (stL (hs ((enL w).getD j (0 : Nat))))) (6 : Nat) ↔ cmP w (enL w).length (6 : Nat)) ∧ (cut (cellD (stL (hs ((enL w).getD j (0 : Nat))))) (7 : Nat) ∧ cut (cellD (stL (hs ((enL w).getD j (0 : Nat))))) (7 : Nat) ↔ cmP w (enL w).length (7 : Nat)) ∧ (true = true ↔ (1 : Nat) ≤ (enL w).length) ∧ True) ∧ True) ∧ True) ∧ True) ∧ ((0 : Nat) < (1 : Nat) ∧ ((0 : Nat) < (1 : Nat) ∧ (((0 : Nat) < (1 : Nat) ∧ (0 : Nat) < (1 : Nat) ∧ (cut (cellD (stL (hs ((enL w).getD j (0 : Nat))))) (0 : Nat) ∧ cut (cellD (stL (hs ((enL w).getD j (0 : Nat))))) (0 : Nat) ↔ cmP w (enL w).length (0 : Nat)) ∧ (cut (cellD (stL (hs ((enL w).getD j (0 : Nat))))) (1 : Nat) ∧ cut (cellD (stL (hs ((enL w).getD j (0 : Nat))))) (1 : Nat) ↔ cmP w (enL w).length (1 : Nat)) ∧ (cut (cellD (stL (hs ((enL w).getD j (0 : Nat))))) (2 : Nat) ∧ cut (cellD (stL (hs ((enL w).getD j (0 : Nat))))) (2 : Nat) ↔ cmP w (enL w).length (2 : Nat)) ∧ (cut (cellD (stL (hs ((enL w).getD j (0 : Nat))))) (3 : Nat) ∧ cut (cellD (stL (hs ((enL w).getD j (0 : Nat))))) (3 : Nat) ↔ cmP w (enL w).length (3 : Nat)) ∧ (cut (cellD (stL (hs ((enL w).getD j (0 : Nat))))) (4 : Nat) ∧ cut (cellD (stL (hs ((enL w).getD j (0 : Nat))))) (4 : Nat) ↔
 cmP w (enL w).length (4 : Nat)) ∧ (cut (cellD (stL (hs ((enL w).getD j (0 : Nat))))) (5 : Nat) ∧ cut (cellD (stL (hs ((enL w).getD j (0 : Nat))))) (5 : Nat) ↔ cmP w (enL w).length (5 : Nat)) ∧ (cut (cellD (stL (hs ((enL w).getD j (0 : Nat))))) (6 : Nat) ∧ cut (cellD (stL (hs ((enL w).getD j (0 : Nat))))) (6 : Nat) ↔ cmP w (enL w).length (6 : Nat)) ∧ (cut (cellD (stL (hs ((enL w).getD j (0 : Nat))))) (7 : Nat) ∧ cut (cellD (stL (hs ((enL w).getD j (0 : Nat))))) (7 : Nat) ↔ cmP w (enL w).length (7 : Nat)) ∧ (true = true ↔ (1 : Nat) ≤ (enL w).length) ∧ True) ∧ True) ∧ True) ∧ True) ∧ True) ∧ (¬eqB [dP (cut (cellD (stL (hs ((enL w).getD j (0 : Nat))))) (0 : Nat) ∧ cut (cellD (stL (hs ((enL w).getD j (0 : Nat))))) (0 : Nat)), dP (cut (cellD (stL (hs ((enL w).getD j (0 : Nat))))) (1 : Nat) ∧ cut (cellD (stL (hs ((enL w).getD j (0 : Nat))))) (1 : Nat)), dP (cut (cellD (stL (hs ((enL w).getD j (0 : Nat))))) (2 : Nat) ∧ cut (cellD (stL (hs ((enL w).getD j (0 : Nat))))) (2 : Nat)), dP (cut (cellD (stL (hs ((enL w).getD j (0 : Nat))))) (3 : Nat) ∧ cut (cellD (stL (hs ((enL w).getD j (0 : Nat))))) (3 : Nat)), dP (cut (cellD (stL (hs ((enL w).getD j (0 : Nat))))) (4 : Nat) ∧ cut (cellD (stL (hs ((enL w).getD j (0 : Nat))))) (4 : Nat)), dP (cut (cellD (stL (hs ((enL w).getD j (0 : Nat))))) (5 : Nat) ∧ cut (cellD (stL (hs ((enL w).getD j (0 : Nat))))) (5 : Nat)), dP (cut (cellD (stL (hs ((enL w).getD j (0 : Nat))))) (6 : Nat) ∧ cut (cellD (stL (hs ((enL w).getD j (0 : Nat))))) (6 : Nat)), dP (cut (cellD (stL (hs ((enL w).getD j (0 : Nat))))) (7 : Nat) ∧ cut (cellD (stL (hs ((enL w).getD j (0 : Nat))))) (7 : Nat))] (ofS (Value.agg #[Value.bool false, Value.bool false, Value.bool false, Value.bool false, Value.bool false, Value.bool false, Value.bool false, Value.bool false])).cells →
 ∃ (z : Nat), (z = j.succ ∧ True) ∧ w.1 = w.1 ∧ w.2 = w.2 ∧ w.j.1 = w.j.1 ∧ (∀ (i : Nat), i < w.j.1 → (SV.agg [i6 (w.j.nl i), i6 (w.j.nh i), i6 (w.j.le i), i6 (w.j.mo i), i6 (w.j.go i)]).den = (SV.agg [i6 (w.j.nl i), i6 (w.j.nh i), i6 (w.j.le i), i6 (w.j.mo i), i6 (w.j.go i)]).den ∧ True ∧ True ∧ True ∧ True ∧ True ∧ True) ∧ w.m.1 = w.m.1 ∧ (∀ (i : Nat), i < w.m.1 → (SV.agg [i6 (w.m.fr i), i6 (w.m.dr i), i6 (w.m.va i), i6 (w.m.co i)]).den = (SV.agg [i6 (w.m.fr i), i6 (w.m.dr i), i6 (w.m.va i), i6 (w.m.co i)]).den ∧ True ∧ True ∧ True ∧ True ∧ True) ∧ (cut (cellD (stL (hs ((enL w).getD j (0 : Nat))))) (0 : Nat) ∧ cut (cellD (stL (hs ((enL w).getD j (0 : Nat))))) (0 : Nat) ↔ cmP w z (0 : Nat)) ∧ (cut (cellD (stL (hs ((enL w).getD j (0 : Nat))))) (1 : Nat) ∧ cut (cellD (stL (hs ((enL w).getD j (0 : Nat))))) (1 : Nat) ↔ cmP w z (1 : Nat)) ∧ (cut (cellD (stL (hs ((enL w).getD j (0 : Nat))))) (2 : Nat) ∧ cut (cellD (stL (hs ((enL w).getD j (0 : Nat))))) (2 : Nat) ↔ cmP w z (2 : Nat)) ∧ (cut (cellD (stL (hs ((enL w).getD j (0 : Nat))))) (3 : Nat) ∧ cut (cellD (stL (hs ((enL w).getD j (0 : Nat))))) (3 : Nat) ↔ cmP w z (3 : Nat)) ∧ (cut (cellD (stL (hs ((enL w).getD j (0 : Nat))))) (4 : Nat) ∧ cut (cellD (stL (hs ((enL w).getD j (0 : Nat))))) (4 : Nat) ↔ cmP w z (4 : Nat)) ∧ (cut (cellD (stL (hs ((enL w).getD j (0 : Nat))))) (5 : Nat) ∧ cut (cellD (stL (hs ((enL w).getD j (0 : Nat))))) (5 : Nat) ↔ cmP w z (5 : Nat)) ∧ (cut (cellD (stL (hs ((enL w).getD j (0 : Nat))))) (6 : Nat) ∧ cut (cellD (stL (hs ((enL w).getD j (0 : Nat))))) (6 : Nat) ↔ cmP w z (6 : Nat)) ∧ (cut (cellD (stL (hs ((enL w).getD j (0 : Nat))))) (7 : Nat) ∧ cut (cellD (stL (hs ((enL w).getD j (0 : Nat))))) (7 : Nat) ↔ cmP w z (7 : Nat)) ∧ (true = true ↔ (1 : Nat) ≤ z) ∧ True)) ∧ (¬¬(1 : Nat) ≤ z →
 (0 : Nat) < (1 : Nat) ∧ (0 : Nat) < (1 : Nat) ∧ ((8 : Nat) = (8 : Nat) ∧ allB (stL (cmP w z)) = true) ∧ ((8 : Nat) = (8 : Nat) ∧ allB (stL (hs ((enL w).getD j (0 : Nat)))) = true) ∧ (0 : Nat) < (1 : Nat) ∧ (eqB [dP (cut (cellD (stL (cmP w z))) (0 : Nat) ∧ cut (cellD (stL (hs ((enL w).getD j (0 : Nat))))) (0 : Nat)), dP (cut (cellD (stL (cmP w z))) (1 : Nat) ∧ cut (cellD (stL (hs ((enL w).getD j (0 : Nat))))) (1 : Nat)), dP (cut (cellD (stL (cmP w z))) (2 : Nat) ∧ cut (cellD (stL (hs ((enL w).getD j (0 : Nat))))) (2 : Nat)), dP (cut (cellD (stL (cmP w z))) (3 : Nat) ∧ cut (cellD (stL (hs ((enL w).getD j (0 : Nat))))) (3 : Nat)), dP (cut (cellD (stL (cmP w z))) (4 : Nat) ∧ cut (cellD (stL (hs ((enL w).getD j (0 : Nat))))) (4 : Nat)), dP (cut (cellD (stL (cmP w z))) (5 : Nat) ∧ cut (cellD (stL (hs ((enL w).getD j (0 : Nat))))) (5 : Nat)), dP (cut (cellD (stL (cmP w z))) (6 : Nat) ∧ cut (cellD (stL (hs ((enL w).getD j (0 : Nat))))) (6 : Nat)), dP (cut (cellD (stL (cmP w z))) (7 : Nat) ∧ cut (cellD (stL (hs ((enL w).getD j (0 : Nat))))) (7 : Nat))] (ofS (Value.agg #[Value.bool false, Value.bool false, Value.bool false, Value.bool false, Value.bool false, Value.bool false, Value.bool false, Value.bool false])).cells → ((0 : Nat) < (1 : Nat) ∧ ((0 : Nat) < (1 : Nat) ∧ (((0 : Nat) < (1 : Nat) ∧ (0 : Nat) < (1 : Nat) ∧ (cut (cellD (stL (cmP w z))) (0 : Nat) ∧ cut (cellD (stL (hs ((enL w).getD j (0 : Nat))))) (0 : Nat) ↔ cmP w (enL w).length (0 : Nat)) ∧ (cut (cellD (stL (cmP w z))) (1 : Nat) ∧ cut (cellD (stL (hs ((enL w).getD j (0 : Nat))))) (1 : Nat) ↔ cmP w (enL w).length (1 : Nat)) ∧ (cut (cellD (stL (cmP w z))) (2 : Nat) ∧ cut (cellD (stL (hs ((enL w).getD j (0 : Nat))))) (2 : Nat) ↔ cmP w (enL w).length (2 : Nat)) ∧ (cut (cellD (stL (cmP w z))) (3 : Nat) ∧ cut (cellD
 (stL (hs ((enL w).getD j (0 : Nat))))) (3 : Nat) ↔ cmP w (enL w).length (3 : Nat)) ∧ (cut (cellD (stL (cmP w z))) (4 : Nat) ∧ cut (cellD (stL (hs ((enL w).getD j (0 : Nat))))) (4 : Nat) ↔ cmP w (enL w).length (4 : Nat)) ∧ (cut (cellD (stL (cmP w z))) (5 : Nat) ∧ cut (cellD (stL (hs ((enL w).getD j (0 : Nat))))) (5 : Nat) ↔ cmP w (enL w).length (5 : Nat)) ∧ (cut (cellD (stL (cmP w z))) (6 : Nat) ∧ cut (cellD (stL (hs ((enL w).getD j (0 : Nat))))) (6 : Nat) ↔ cmP w (enL w).length (6 : Nat)) ∧ (cut (cellD (stL (cmP w z))) (7 : Nat) ∧ cut (cellD (stL (hs ((enL w).getD j (0 : Nat))))) (7 : Nat) ↔ cmP w (enL w).length (7 : Nat)) ∧ ((1 : Nat) ≤ z ↔ (1 : Nat) ≤ (enL w).length) ∧ True) ∧ True) ∧ True) ∧ (((0 : Nat) < (1 : Nat) ∧ ((0 : Nat) < (1 : Nat) ∧ (0 : Nat) < (1 : Nat) ∧ (cut (cellD (stL (cmP w z))) (0 : Nat) ∧ cut (cellD (stL (hs ((enL w).getD j (0 : Nat))))) (0 : Nat) ↔ cmP w (enL w).length (0 : Nat)) ∧ (cut (cellD (stL (cmP w z))) (1 : Nat) ∧ cut (cellD (stL (hs ((enL w).getD j (0 : Nat))))) (1 : Nat) ↔ cmP w (enL w).length (1 : Nat)) ∧ (cut (cellD (stL (cmP w z))) (2 : Nat) ∧ cut (cellD (stL (hs ((enL w).getD j (0 : Nat))))) (2 : Nat) ↔ cmP w (enL w).length (2 : Nat)) ∧ (cut (cellD (stL (cmP w z))) (3 : Nat) ∧ cut (cellD (stL (hs ((enL w).getD j (0 : Nat))))) (3 : Nat) ↔ cmP w (enL w).length (3 : Nat)) ∧ (cut (cellD (stL (cmP w z))) (4 : Nat) ∧ cut (cellD (stL (hs ((enL w).getD j (0 : Nat))))) (4 : Nat) ↔ cmP w (enL w).length (4 : Nat)) ∧ (cut (cellD (stL (cmP w z))) (5 : Nat) ∧ cut (cellD (stL (hs ((enL w).getD j (0 : Nat))))) (5 : Nat) ↔ cmP w (enL w).length (5 : Nat)) ∧ (cut (cellD (stL (cmP w z))) (6 : Nat) ∧ cut (cellD (stL (hs ((enL w).getD j (0 : Nat))))) (6 : Nat) ↔ cmP w (enL w).length (6 : Nat)) ∧ (cut (cellD (stL (cmP w z))) (7 : Nat) ∧ cut (cellD (stL (hs
 ((enL w).getD j (0 : Nat))))) (7 : Nat) ↔ cmP w (enL w).length (7 : Nat)) ∧ ((1 : Nat) ≤ z ↔ (1 : Nat) ≤ (enL w).length) ∧ True) ∧ True) ∧ True) ∧ True) ∧ ((0 : Nat) < (1 : Nat) ∧ ((0 : Nat) < (1 : Nat) ∧ (((0 : Nat) < (1 : Nat) ∧ (0 : Nat) < (1 : Nat) ∧ (cut (cellD (stL (cmP w z))) (0 : Nat) ∧ cut (cellD (stL (hs ((enL w).getD j (0 : Nat))))) (0 : Nat) ↔ cmP w (enL w).length (0 : Nat)) ∧ (cut (cellD (stL (cmP w z))) (1 : Nat) ∧ cut (cellD (stL (hs ((enL w).getD j (0 : Nat))))) (1 : Nat) ↔ cmP w (enL w).length (1 : Nat)) ∧ (cut (cellD (stL (cmP w z))) (2 : Nat) ∧ cut (cellD (stL (hs ((enL w).getD j (0 : Nat))))) (2 : Nat) ↔ cmP w (enL w).length (2 : Nat)) ∧ (cut (cellD (stL (cmP w z))) (3 : Nat) ∧ cut (cellD (stL (hs ((enL w).getD j (0 : Nat))))) (3 : Nat) ↔ cmP w (enL w).length (3 : Nat)) ∧ (cut (cellD (stL (cmP w z))) (4 : Nat) ∧ cut (cellD (stL (hs ((enL w).getD j (0 : Nat))))) (4 : Nat) ↔ cmP w (enL w).length (4 : Nat)) ∧ (cut (cellD (stL (cmP w z))) (5 : Nat) ∧ cut (cellD (stL (hs ((enL w).getD j (0 : Nat))))) (5 : Nat) ↔ cmP w (enL w).length (5 : Nat)) ∧ (cut (cellD (stL (cmP w z))) (6 : Nat) ∧ cut (cellD (stL (hs ((enL w).getD j (0 : Nat))))) (6 : Nat) ↔ cmP w (enL w).length (6 : Nat)) ∧ (cut (cellD (stL (cmP w z))) (7 : Nat) ∧ cut (cellD (stL (hs ((enL w).getD j (0 : Nat))))) (7 : Nat) ↔ cmP w (enL w).length (7 : Nat)) ∧ ((1 : Nat) ≤ z ↔ (1 : Nat) ≤ (enL w).length) ∧ True) ∧ True) ∧ True) ∧ True) ∧ True) ∧ (¬eqB [dP (cut (cellD (stL (cmP w z))) (0 : Nat) ∧ cut (cellD (stL (hs ((enL w).getD j (0 : Nat))))) (0 : Nat)), dP (cut (cellD (stL (cmP w z))) (1 : Nat) ∧ cut (cellD (stL (hs ((enL w).getD j (0 : Nat))))) (1 : Nat)), dP (cut (cellD (stL (cmP w z))) (2 : Nat) ∧ cut (cellD (stL (hs ((enL w).getD j (0 : Nat))))) (2 : Nat)), dP
 (cut (cellD (stL (cmP w z))) (3 : Nat) ∧ cut (cellD (stL (hs ((enL w).getD j (0 : Nat))))) (3 : Nat)), dP (cut (cellD (stL (cmP w z))) (4 : Nat) ∧ cut (cellD (stL (hs ((enL w).getD j (0 : Nat))))) (4 : Nat)), dP (cut (cellD (stL (cmP w z))) (5 : Nat) ∧ cut (cellD (stL (hs ((enL w).getD j (0 : Nat))))) (5 : Nat)), dP (cut (cellD (stL (cmP w z))) (6 : Nat) ∧ cut (cellD (stL (hs ((enL w).getD j (0 : Nat))))) (6 : Nat)), dP (cut (cellD (stL (cmP w z))) (7 : Nat) ∧ cut (cellD (stL (hs ((enL w).getD j (0 : Nat))))) (7 : Nat))] (ofS (Value.agg #[Value.bool false, Value.bool false, Value.bool false, Value.bool false, Value.bool false, Value.bool false, Value.bool false, Value.bool false])).cells → ∃ (z_1 : Nat), (z_1 = j.succ ∧ True) ∧ w.1 = w.1 ∧ w.2 = w.2 ∧ w.j.1 = w.j.1 ∧ (∀ (i : Nat), i < w.j.1 → (SV.agg [i6 (w.j.nl i), i6 (w.j.nh i), i6 (w.j.le i), i6 (w.j.mo i), i6 (w.j.go i)]).den = (SV.agg [i6 (w.j.nl i), i6 (w.j.nh i), i6 (w.j.le i), i6 (w.j.mo i), i6 (w.j.go i)]).den ∧ True ∧ True ∧ True ∧ True ∧ True ∧ True) ∧ w.m.1 = w.m.1 ∧ (∀ (i : Nat), i < w.m.1 → (SV.agg [i6 (w.m.fr i), i6 (w.m.dr i), i6 (w.m.va i), i6 (w.m.co i)]).den = (SV.agg [i6 (w.m.fr i), i6 (w.m.dr i), i6 (w.m.va i), i6 (w.m.co i)]).den ∧ True ∧ True ∧ True ∧ True ∧ True) ∧ (cut (cellD (stL (cmP w z))) (0 : Nat) ∧ cut (cellD (stL (hs ((enL w).getD j (0 : Nat))))) (0 : Nat) ↔ cmP w z_1 (0 : Nat)) ∧ (cut (cellD (stL (cmP w z))) (1 : Nat) ∧ cut (cellD (stL (hs ((enL w).getD j (0 : Nat))))) (1 : Nat) ↔ cmP w z_1 (1 : Nat)) ∧ (cut (cellD (stL (cmP w z))) (2 : Nat) ∧ cut (cellD (stL (hs ((enL w).getD j (0 : Nat))))) (2 : Nat) ↔ cmP w z_1 (2 : Nat)) ∧ (cut (cellD (stL (cmP w z))) (3 : Nat) ∧ cut (cellD (stL (hs ((enL w).getD j (0 : Nat))))) (3 : Nat) ↔ cmP w z_1 (3 : Nat)) ∧
 (cut (cellD (stL (cmP w z))) (4 : Nat) ∧ cut (cellD (stL (hs ((enL w).getD j (0 : Nat))))) (4 : Nat) ↔ cmP w z_1 (4 : Nat)) ∧ (cut (cellD (stL (cmP w z))) (5 : Nat) ∧ cut (cellD (stL (hs ((enL w).getD j (0 : Nat))))) (5 : Nat) ↔ cmP w z_1 (5 : Nat)) ∧ (cut (cellD (stL (cmP w z))) (6 : Nat) ∧ cut (cellD (stL (hs ((enL w).getD j (0 : Nat))))) (6 : Nat) ↔ cmP w z_1 (6 : Nat)) ∧ (cut (cellD (stL (cmP w z))) (7 : Nat) ∧ cut (cellD (stL (hs ((enL w).getD j (0 : Nat))))) (7 : Nat) ↔ cmP w z_1 (7 : Nat)) ∧ ((1 : Nat) ≤ z ↔ (1 : Nat) ≤ z_1) ∧ True))) ∧ ∀ (z : Nat), z = (enL w).length ∧ True → ((0 : Nat) < (1 : Nat) ∧ ((0 : Nat) < (1 : Nat) ∧ (((0 : Nat) < (1 : Nat) ∧ (0 : Nat) < (1 : Nat) ∧ (cmP w z (0 : Nat) ↔ cmP w (enL w).length (0 : Nat)) ∧ (cmP w z (1 : Nat) ↔ cmP w (enL w).length (1 : Nat)) ∧ (cmP w z (2 : Nat) ↔ cmP w (enL w).length (2 : Nat)) ∧ (cmP w z (3 : Nat) ↔ cmP w (enL w).length (3 : Nat)) ∧ (cmP w z (4 : Nat) ↔ cmP w (enL w).length (4 : Nat)) ∧ (cmP w z (5 : Nat) ↔ cmP w (enL w).length (5 : Nat)) ∧ (cmP w z (6 : Nat) ↔ cmP w (enL w).length (6 : Nat)) ∧ (cmP w z (7 : Nat) ↔ cmP w (enL w).length (7 : Nat)) ∧ ((1 : Nat) ≤ z ↔ (1 : Nat) ≤ (enL w).length) ∧ True) ∧ True) ∧ True) ∧ (((0 : Nat) < (1 : Nat) ∧ ((0 : Nat) < (1 : Nat) ∧ (0 : Nat) < (1 : Nat) ∧ (cmP w z (0 : Nat) ↔ cmP w (enL w).length (0 : Nat)) ∧ (cmP w z (1 : Nat) ↔ cmP w (enL w).length (1 : Nat)) ∧ (cmP w z (2 : Nat) ↔ cmP w (enL w).length (2 : Nat)) ∧ (cmP w z (3 : Nat) ↔ cmP w (enL w).length (3 : Nat)) ∧ (cmP w z (4 : Nat) ↔ cmP w (enL w).length (4 : Nat)) ∧ (cmP w z (5 : Nat) ↔ cmP w (enL w).length (5 : Nat)) ∧ (cmP w z (6 : Nat) ↔ cmP w (enL w).length (6 : Nat)) ∧ (cmP w z (7 : Nat) ↔ cmP w (enL w).length (7 : Nat)) ∧ ((1 : Nat) ≤ z ↔ (1 : Nat) ≤ (enL w).length) ∧ True) ∧ True) ∧ True) ∧ True) ∧
 ((0 : Nat) < (1 : Nat) ∧ ((0 : Nat) < (1 : Nat) ∧ (((0 : Nat) < (1 : Nat) ∧ (0 : Nat) < (1 : Nat) ∧ (cmP w z (0 : Nat) ↔ cmP w (enL w).length (0 : Nat)) ∧ (cmP w z (1 : Nat) ↔ cmP w (enL w).length (1 : Nat)) ∧ (cmP w z (2 : Nat) ↔ cmP w (enL w).length (2 : Nat)) ∧ (cmP w z (3 : Nat) ↔ cmP w (enL w).length (3 : Nat)) ∧ (cmP w z (4 : Nat) ↔ cmP w (enL w).length (4 : Nat)) ∧ (cmP w z (5 : Nat) ↔ cmP w (enL w).length (5 : Nat)) ∧ (cmP w z (6 : Nat) ↔ cmP w (enL w).length (6 : Nat)) ∧ (cmP w z (7 : Nat) ↔ cmP w (enL w).length (7 : Nat)) ∧ ((1 : Nat) ≤ z ↔ (1 : Nat) ≤ (enL w).length) ∧ True) ∧ True) ∧ True) ∧ True) ∧ True) := by kernel_rfl
end Go.Proofs.Ytpannbkmpbioiaa

set_option maxRecDepth 100000
namespace Go.Proofs.Ytpannbkmpbioiaa
open Go Go.Lg
attribute [local irreducible] funS bodyH
theorem eq_none (P : Nat → Prop) : eqB [dP (P 0), dP (P 1), dP (P 2), dP (P 3), dP (P 4), dP (P 5), dP (P 6), dP (P 7)] (ofS (Value.agg #[Value.bool false, Value.bool false, Value.bool false, Value.bool false, Value.bool false, Value.bool false, Value.bool false, Value.bool false])).cells → ∀ i, i < 8 → ¬ P i := by
  intro h
  have h : eqB [dP (P 0), dP (P 1), dP (P 2), dP (P 3), dP (P 4), dP (P 5), dP (P 6), dP (P 7)] [.bool false, .bool false, .bool false, .bool false, .bool false, .bool false, .bool false, .bool false] := h
  simp only [eqB, decP_dP, decP, Bool.false_eq_true, iff_false] at h
  obtain ⟨h0, h1, h2, h3, h4, h5, h6, h7, _⟩ := h
  intro i hi
  have : i = 0 ∨ i = 1 ∨ i = 2 ∨ i = 3 ∨ i = 4 ∨ i = 5 ∨ i = 6 ∨ i = 7 := by omega
  rcases this with rfl | rfl | rfl | rfl | rfl | rfl | rfl | rfl <;> assumption
theorem cm_one {w : Nw} {i : Nat} (hi : i < 8) : cut (hs ((enL w).getD 0 0)) i ↔ cmP w 1 i := by
  unfold cut cmP
  constructor
  · rintro ⟨_, h⟩
    refine ⟨by omega, fun q hq => ?_⟩
    have : q = 0 := by omega
    subst this; exact h
  · exact fun h => ⟨hi, h.2 0 (by omega)⟩
theorem cm_succ {w : Nw} {z i : Nat} (hz : 1 ≤ z) (hi : i < 8) : (cut (cmP w z) i ∧ cut (hs ((enL w).getD z 0)) i) ↔ cmP w (z + 1) i := by
  unfold cut cmP
  constructor
  · rintro ⟨⟨_, h1, h2⟩, _, h3⟩
    refine ⟨by omega, fun q hq => ?_⟩
    by_cases e : q < z
    · exact h2 q e
    · have : q = z := by omega
      subst this; exact h3
  · exact fun h => ⟨⟨hi, hz, fun q hq => h.2 q (by omega)⟩, hi, h.2 z (by omega)⟩
theorem cm_mono {w : Nw} {a b i : Nat} (ha : 1 ≤ a) (hab : a ≤ b) (h : cmP w b i) : cmP w a i := ⟨ha, fun q hq => h.2 q (by omega)⟩
theorem cm_end {w : Nw} {P : Nat → Prop} {z i N : Nat} (hi : i < 8) (hN : z + 1 ≤ N) (hP : ∀ i, i < 8 → (P i ↔ cmP w (z + 1) i)) (h : ∀ i, i < 8 → ¬ P i) : P i ↔ cmP w N i :=
  ⟨fun x => absurd x (h i hi), fun x => absurd ((hP i hi).2 (cm_mono (by omega) hN x)) (h i hi)⟩
theorem cm_f (w : Nw) (i : Nat) : false = true ↔ cmP w 0 i := ⟨fun h => by simp at h, fun h => by have := h.1; omega⟩
theorem com_true {w : Nw} (hw : okNet w) : comG w := by
  rw [comG_vc]
  simp only [and_true, true_and, Nat.zero_lt_one, and_self, implies_true, Int.toNat_natCast, Nat.zero_add, Nat.add_zero, Classical.not_not, cut_stL]
  refine ⟨hw, ⟨0, rfl, rfl, cm_f w 0, cm_f w 1, cm_f w 2, cm_f w 3, cm_f w 4, cm_f w 5, cm_f w 6, cm_f w 7, by simp⟩, fun j hj z hz => ?_, fun z hz => ?_⟩
  · subst hz
    refine ⟨fun h0 => ?_, fun h0 => ?_⟩
    · have z0 : z = 0 := by omega
      subst z0
      have hP : ∀ i, i < 8 → (cut (hs ((enL w).getD 0 0)) i ↔ cmP w (0 + 1) i) := fun i hi => cm_one hi
      refine ⟨rfl, rfl, fun he => ?_, fun he => ⟨0 + 1, rfl, ?_⟩⟩
      · have hn := eq_none (fun i => cut (hs ((enL w).getD 0 0)) i) he
        have E := fun {i : Nat} (hi : i < 8) => cm_end (N := (enL w).length) hi (by omega) hP hn
        exact ⟨E (by omega), E (by omega), E (by omega), E (by omega), E (by omega), E (by omega), E (by omega), E (by omega), ⟨fun _ => by omega, fun _ => trivial⟩⟩
      · exact ⟨hP 0 (by omega), hP 1 (by omega), hP 2 (by omega), hP 3 (by omega), hP 4 (by omega), hP 5 (by omega), hP 6 (by omega), hP 7 (by omega), ⟨fun _ => by omega, fun _ => trivial⟩⟩
    · have hP : ∀ i, i < 8 → ((cut (cmP w z) i ∧ cut (hs ((enL w).getD z 0)) i) ↔ cmP w (z + 1) i) := fun i hi => cm_succ h0 hi
      refine ⟨rfl, rfl, fun he => ?_, fun he => ⟨z + 1, rfl, ?_⟩⟩
      · have hn := eq_none (fun i => cut (cmP w z) i ∧ cut (hs ((enL w).getD z 0)) i) he
        have E := fun {i : Nat} (hi : i < 8) => cm_end (N := (enL w).length) hi (by omega) hP hn
        exact ⟨E (by omega), E (by omega), E (by omega), E (by omega), E (by omega), E (by omega), E (by omega), E (by omega), ⟨fun _ => by omega, fun _ => h0⟩⟩
      · exact ⟨hP 0 (by omega), hP 1 (by omega), hP 2 (by omega), hP 3 (by omega), hP 4 (by omega), hP 5 (by omega), hP 6 (by omega), hP 7 (by omega), ⟨fun _ => by omega, fun _ => h0⟩⟩
  · subst hz
    exact ⟨Iff.rfl, Iff.rfl, Iff.rfl, Iff.rfl, Iff.rfl, Iff.rfl, Iff.rfl, Iff.rfl, Iff.rfl⟩
theorem allB_cons {x : SV} {cs : List SV} (h : allB (x :: cs) = true) : isB x = true ∧ allB cs = true := by
  have h : (isB x && allB cs) = true := h
  simpa using h
theorem agg_st {cs : List SV} (hl : cs.length = 8 ∧ allB cs = true) : (SV.agg cs).den = (stV (cut (cellD cs))).den := by
  obtain ⟨hl, h⟩ := hl
  match cs, hl with
  | [x0, x1, x2, x3, x4, x5, x6, x7], _ =>
    obtain ⟨b0, h⟩ := allB_cons h
    obtain ⟨b1, h⟩ := allB_cons h
    obtain ⟨b2, h⟩ := allB_cons h
    obtain ⟨b3, h⟩ := allB_cons h
    obtain ⟨b4, h⟩ := allB_cons h
    obtain ⟨b5, h⟩ := allB_cons h
    obtain ⟨b6, h⟩ := allB_cons h
    obtain ⟨b7, h⟩ := allB_cons h
    have D : ∀ {x : SV} {k : Nat} (hk : k < 8) (hb : isB x = true) (hc : cellD [x0, x1, x2, x3, x4, x5, x6, x7] k = decP x), x.den = (dP (cut (cellD [x0, x1, x2, x3, x4, x5, x6, x7]) k)).den := fun {x k} hk hb hc => by
      rw [isB_den hb]
      show _ = AV.sc (.bool _)
      congr 2
      exact decide_eq_decide.2 ⟨fun h => ⟨hk, by rw [hc]; exact h⟩, fun h => by rw [← hc]; exact h.2⟩
    show AV.agg [x0.den, x1.den, x2.den, x3.den, x4.den, x5.den, x6.den, x7.den] = AV.agg [_, _, _, _, _, _, _, _]
    rw [D (k := 0) (by omega) b0 rfl, D (k := 1) (by omega) b1 rfl, D (k := 2) (by omega) b2 rfl, D (k := 3) (by omega) b3 rfl, D (k := 4) (by omega) b4 rfl, D (k := 5) (by omega) b5 rfl, D (k := 6) (by omega) b6 rfl, D (k := 7) (by omega) b7 rfl]
theorem set_ok : setC.Ok Try.prog := by
  refine ⟨by kernel_rfl, fun x k hk => ?_⟩
  simp only [setC] at hk
  split at hk
  · rename_i b
    obtain ⟨hb, hk⟩ := hk
    have hh := set_true (b := b.toNat) (by omega)
    unfold setG at hh
    rw [show ((b.toNat : Nat) : Int) = b by omega] at hh
    exact ⟨_, okV nil_cs nil_x nil_ic hh (by simp [plainS, plainS.plainL, stV, dP]), hk⟩
  · exact hk.elim
theorem num_ok : numC.OkF Try.prog := by
  refine ⟨by kernel_rfl, fun x k hk => ?_⟩
  simp only [numC] at hk
  split at hk
  · rename_i cs
    obtain ⟨hl, hk⟩ := hk
    refine ⟨_, ?_, hk⟩
    have hh := num_true (p := cut (cellD cs))
    unfold numG at hh
    simp only [SV.denL, agg_st hl]
    exact funH_does nil_cs nil_x nil_ic mixed hh
  · exact hk.elim
theorem cos_ok : cosC.Ok Try.prog := by
  refine ⟨by kernel_rfl, fun x k hk => ?_⟩
  simp only [cosC] at hk
  split at hk
  · rename_i cs x
    obtain ⟨hl, hx, hn, hc, hk⟩ := hk
    refine ⟨_, ?_, hk⟩
    have hh := cos_true (p := cut (cellD cs)) hn hc
    unfold cosG at hh
    rw [hx]
    simp only [SV.denL, agg_st hl]
    exact okV nil_cs nil_x nil_ic hh trivial
  · exact hk.elim
theorem and_okC : andC.Ok Try.prog := by
  refine ⟨by kernel_rfl, fun x k hk => ?_⟩
  simp only [andC] at hk
  split at hk
  · rename_i cs ds
    obtain ⟨hl, hd, hk⟩ := hk
    refine ⟨_, ?_, hk⟩
    have hh := and_tru (p := cut (cellD cs)) (q := cut (cellD ds))
    unfold andG at hh
    simp only [SV.denL, agg_st hl, agg_st hd]
    exact okV nil_cs nil_x nil_ic hh (by simp [plainS, plainS.plainL, stV, dP])
  · exact hk.elim
theorem lai_ok : laiC.OkF Try.prog := netC_okF (by kernel_rfl) fun w r k hk => by
  split at hk
  · rename_i cs
    obtain ⟨hl, hn, hd, hk⟩ := hk
    refine ⟨_, ?_, hk⟩
    have hh := lai_true (p := cut (cellD cs)) hn hd
    unfold laiG at hh
    simp only [SV.denL, agg_st hl]
    exact funH_does nil_cs (inl_sound (ys := none) nil_cs noX_sound trivial nil_ic mixed) nil_ic mixed hh
  · exact hk.elim
theorem enu_ok : enuC.OkF Try.prog := netC_okF (by kernel_rfl) fun w r k hk => by
  split at hk
  · refine ⟨_, ?_, hk⟩
    have hh := enu_true (w := w)
    unfold enuG at hh
    exact funH_does nil_cs nil_x nil_ic mixed hh
  · exact hk.elim
theorem csEn_ok : SoundS Try.prog csEn := ctrsF_sound (ctrs_sound (by
  intro x hx
  simp only [List.mem_cons, List.not_mem_nil, or_false] at hx
  rcases hx with rfl | rfl
  · exact set_ok
  · exact flt_ok)) (by intro x hx; simp at hx; subst hx; exact lai_ok)
theorem enuI_ok : enuI.Ok Try.prog := by
  refine ⟨by kernel_rfl, fun fs us k hk => ?_⟩
  simp only [enuI] at hk
  split at hk
  · rename_i cs
    obtain ⟨hx, hw, hk⟩ := hk
    refine ⟨_, _, _, ?_, ?_, hk⟩
    · have hh := enI_true hw
      unfold enIG at hh
      have e : cs = cells' (wOf (.agg cs)).sv := by
        conv => lhs; rw [show cs = cells' (.agg cs) from rfl, hx]
      rw [← e] at hh
      exact itH_ok csEn_ok (fun Γ γ _ => noX_sound) nil_ic mixed hh
    · intro j hj; rfl
  · exact hk.elim
theorem enuIC : SoundIH Try.prog (ictrs [enuI]) := ictrs_sound (by intro x hx; simp at hx; subst hx; exact enuI_ok)
theorem che_ok : cheC.Ok Try.prog := netC_ok (by kernel_rfl) fun w r k hk => by
  split at hk
  · refine ⟨_, ?_, hk.2⟩
    have hh := che_true hk.1
    unfold cheG at hh
    exact okV (ctrsF_sound (ctrs_sound (by intro x hx; simp at hx; subst hx; exact cos_ok)) (by intro x hx; simp at hx; subst hx; exact enu_ok)) nil_x enuIC hh (by simp [plainS, plainS.plainL, stV, dP])
  · exact hk.elim
theorem com_ok : comC.Ok Try.prog := netC_ok (by kernel_rfl) fun w r k hk => by
  split at hk
  · refine ⟨_, ?_, hk.2⟩
    have hh := com_true hk.1
    unfold comG at hh
    exact okV (ctrsF_sound (ctrs_sound (by intro x hx; simp at hx; subst hx; exact and_okC)) (by intro x hx; simp at hx; subst hx; exact enu_ok)) nil_x enuIC hh (by simp [plainS, plainS.plainL, stV, dP])
  · exact hk.elim
end Go.Proofs.Ytpannbkmpbioiaa
