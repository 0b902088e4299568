import Derived.Test.YtoeolgeidpjgbaaVeVfVi
import Derived.Test.YtoeolgeidpjgbaaAn
import Derived.Test.YtoeolgeidpjgbaaXkXlXm
set_option linter.unusedVariables false
namespace Go.Proofs.Ytoeolgeidpjgbaa
open Go Go.Lg
attribute [local irreducible] funS
theorem alive_ok : aliveC.Ok Try.prog := by
  refine ⟨by kernel_rfl, fun args k h => ?_⟩
  simp only [aliveC] at h
  split at h
  · exact ⟨.bool true, Does.plain (res := .bool true) An_does trivial, h⟩
  · exact h.elim
end Go.Proofs.Ytoeolgeidpjgbaa

set_option linter.unusedVariables false
namespace Go.Proofs.Ytoeolgeidpjgbaa
open Go Go.Lg
attribute [local irreducible] funS
def T5 (w : Wt) : Prop := ∀ i : Nat, i < w.n → True ∧ True ∧ True
def pf (p : Nat → Int) : Nat → SV := fun i => i6 (p i)
theorem holdsK_vc (w : Wt) (m : Nat) (p : Nat → Int) (N : Nat) (H E : Int) : holdsK w m p N H E =
  ((0 : Nat) < nat_lit 1 ∧ T5 w ∧ w.sv = w.sv ∧ (¬ watchP w → 0 = N ∧ 0 = H ∧ 1 = E ∧ True) ∧ (¬¬ watchP w → (0 : Nat) < nat_lit 1 ∧ T5 w ∧ (∀ i : Nat, i < m → True) ∧ w.sv = w.sv ∧ (1 : Nat) = 1 ∧ pf p = pf p ∧ m ≤ 1000 ∧
    (¬ isPlanP w m p → 0 = N ∧ 0 = H ∧ 2 = E ∧ True) ∧ (¬¬ isPlanP w m p → (0 : Nat) < nat_lit 1 ∧ T5 w ∧ w.sv = w.sv ∧ watchP w ∧ T5 w ∧ (∀ i : Nat, i < w.n → True) ∧ (∀ i : Nat, i < w.n → True) ∧ (∀ i : Nat, i < m → True) ∧ keepV w = keepV w ∧ (1 : Nat) = 1 ∧ pf p = pf p ∧
      (watchP w ∧ isPlanP w m p) ∧ hN w m p = N ∧ (∀ i : Nat, i < N → (heldK w p i).den = (heldK w p i).den ∧ True ∧ True ∧ True) ∧ hH w m p = H ∧ hEr w m p = E ∧ True))) := by kernel_rfl
theorem holdsK_true (w : Wt) (m : Nat) (p : Nat → Int) (hm : m ≤ 30) : holdsK w m p (hN w m p) (hH w m p) (hEr w m p) := by
  rw [holdsK_vc]
  simp only [and_true, true_and, implies_true, lit1, T5, Classical.not_not, and_self]
  exact ⟨fun hw => h_bad hw, fun hw => ⟨by omega, fun hp => h_range hw hp, fun hp => ⟨hw, hw, hp⟩⟩⟩
def holdsC (g : FuncId) (F : Wt → (Nat → Int) → Nat → SV) : Ctr := wC g fun w r k => match r with
  | [.lst sz m f] => sz = 1 ∧ f = (fun i => i6 (prI (f i))) ∧ m ≤ 30 ∧ k (.tup [.lst 2 (hN w m fun i => prI (f i)) (F w fun i => prI (f i)), i6 (hH w m fun i => prI (f i)), i6 (hEr w m fun i => prI (f i))])
  | _ => False
theorem csH_sound : SoundS Try.prog csH := ctrsF_sound csX_sound (by
  intro x hx
  simp only [List.mem_cons, List.not_mem_nil, or_false] at hx
  rcases hx with rfl | rfl | rfl | rfl
  · exact watch2_okF
  · exact isPlan2_okF
  · exact keep_okF
  · exact follow_okF)
theorem csR_sound : SoundS Try.prog csR := ctrsF_sound csX_sound (by
  intro x hx
  simp only [List.mem_cons, List.not_mem_nil, or_false] at hx
  rcases hx with rfl | rfl | rfl
  · exact watch_okF
  · exact isPlan_okF
  · exact after_okF)
theorem holdsK_okF : (holdsC 20 heldK).OkF Try.prog := wC_okF (by kernel_rfl) fun w r k hk => by
  split at hk
  · rename_i sz m f
    obtain ⟨rfl, hf, hm, hk⟩ := hk
    have hh := holdsK_true w m (fun i => prI (f i)) hm
    unfold holdsK at hh
    rw [plan_eq hf]
    exact ⟨_, funS_does csH_sound mixed hh, hk⟩
  · exact hk.elim
theorem holds_okF : (holdsC 21 heldF).OkF Try.prog := wC_okF (by kernel_rfl) fun w r k hk => by
  split at hk
  · rename_i sz m f
    obtain ⟨rfl, hf, hm, hk⟩ := hk
    have hh := holds_true w m (fun i => prI (f i)) hm
    unfold holdsG at hh
    rw [plan_eq hf]
    exact ⟨_, funS_does csR_sound mixed hh, hk⟩
  · exact hk.elim
def spansC : Ctr := ⟨22, fun args k => match args with
  | [.lst a n f, .lst b m g] => a = 2 ∧ b = 2 ∧ f = (fun i => .agg [i6 (prA (f i)), i6 (prR (f i))]) ∧ g = (fun i => .agg [i6 (prA (g i)), i6 (prR (g i))]) ∧ n ≤ 1000 ∧
      k (.dec (sameP n m (fun i => prA (f i)) (fun i => prR (f i)) (fun i => prA (g i)) (fun i => prR (g i))) (Classical.propDecidable _))
  | _ => False⟩
theorem spans_okF : spansC.OkF Try.prog := by
  refine ⟨by kernel_rfl, fun args k hk => ?_⟩
  simp only [spansC] at hk
  split at hk
  · rename_i a n f b m g
    obtain ⟨rfl, rfl, hf, hg, hn, hk⟩ := hk
    have hh := spans_true n m (fun i => prA (f i)) (fun i => prR (f i)) (fun i => prA (g i)) (fun i => prR (g i)) hn
    unfold spansG at hh
    have e1 : SV.lst 2 n f = spansV n (fun i => prA (f i)) (fun i => prR (f i)) := by unfold spansV; rw [← hf]
    have e2 : SV.lst 2 m g = spansV m (fun i => prA (g i)) (fun i => prR (g i)) := by unfold spansV; rw [← hg]
    rw [e1, e2]
    exact ⟨_, funS_does csX_sound mixed hh, hk⟩
  · exact hk.elim
noncomputable def csW : CSpec := ctrsF [greatC, holdsC 20 heldK, holdsC 21 heldF, spansC] (ctrs [aliveC])
theorem csW_sound : SoundS Try.prog csW := ctrsF_sound (ctrs_sound (by
  intro x hx
  simp only [List.mem_cons, List.not_mem_nil, or_false] at hx
  rcases hx with rfl
  exact alive_ok)) (by
  intro x hx
  simp only [List.mem_cons, List.not_mem_nil, or_false] at hx
  rcases hx with rfl | rfl | rfl | rfl
  · exact great_okF
  · exact holdsK_okF
  · exact holds_okF
  · exact spans_okF)
noncomputable def lawH (w : Wt) (m : Nat) (p : Nat → Int) : Prop := funS Try.prog csW (fun _ => none) 4 [w.sv, planV m p] (.bool true)
end Go.Proofs.Ytoeolgeidpjgbaa

set_option linter.unusedVariables false
namespace Go.Proofs.Ytoeolgeidpjgbaa
open Go Go.Lg
attribute [local irreducible] funS
def TN (n : Nat) : Prop := ∀ i : Nat, i < n → True ∧ True ∧ True
theorem lawH_vc (w : Wt) (m : Nat) (p : Nat → Int) : lawH w m p =
  ((0 : Nat) < nat_lit 1 ∧ T5 w ∧ w.sv = w.sv ∧ ((12 < (w.n : Int) ∧ (w.n : Int) ≤ 12 ∨ 20 < (w.n : Int)) → true = true ∧ True) ∧ (¬ (12 < (w.n : Int) ∧ (w.n : Int) ≤ 12 ∨ 20 < (w.n : Int)) → (30 < (m : Int) → true = true ∧ True) ∧ (¬ 30 < (m : Int) →
    (0 : Nat) < nat_lit 1 ∧ T5 w ∧ (∀ i : Nat, i < m → True) ∧ w.sv = w.sv ∧ (1 : Nat) = 1 ∧ pf p = pf p ∧ m ≤ 30 ∧ (0 : Nat) < nat_lit 1 ∧ T5 w ∧ (∀ i : Nat, i < m → True) ∧ w.sv = w.sv ∧ (1 : Nat) = 1 ∧ pf p = pf p ∧ m ≤ 30 ∧
    TN (hN w m p) ∧ TN (hN w m p) ∧ (2 : Nat) = 2 ∧ (2 : Nat) = 2 ∧ heldK w p = heldK w p ∧ heldF w p = heldF w p ∧ hN w m p ≤ 1000 ∧
    (sameP (hN w m p) (hN w m p) (loK w p) (hiK w p) (loF w p) (hiF w p) → (hH w m p = hH w m p → (hEr w m p = hEr w m p → true = true ∧ True) ∧ (¬ hEr w m p = hEr w m p → false = true ∧ True)) ∧ (¬ hH w m p = hH w m p → false = true ∧ True)) ∧
    (¬ sameP (hN w m p) (hN w m p) (loK w p) (hiK w p) (loF w p) (hiF w p) → false = true ∧ True)))) := by kernel_rfl
theorem hN_le (w : Wt) (m : Nat) (p : Nat → Int) : hN w m p ≤ m := by
  unfold hN; split <;> omega
theorem same_KF (w : Wt) (m : Nat) (p : Nat → Int) (N : Nat) : sameP N N (loK w p) (hiK w p) (loF w p) (hiF w p) :=
  ⟨rfl, fun i _ => ⟨aLo_eq w p i, aHi_eq w p i⟩⟩
theorem lawH_true (w : Wt) (m : Nat) (p : Nat → Int) : lawH w m p := by
  rw [lawH_vc]
  have h1 := hN_le w m p
  have h2 := same_KF w m p (hN w m p)
  simp only [and_true, true_and, implies_true, lit1, T5, TN, h2, not_true, false_implies, and_self]
  exact fun _ h => ⟨by omega, by omega⟩
theorem holdsLaw_does (w : Wt) (m : Nat) (p : Nat → Int) : Does Try.prog 4 false (SV.denL [w.sv, planV m p]) (.sc (.bool true)) := by
  have hh := lawH_true w m p
  unfold lawH at hh
  exact funS_does csW_sound mixed hh
end Go.Proofs.Ytoeolgeidpjgbaa
