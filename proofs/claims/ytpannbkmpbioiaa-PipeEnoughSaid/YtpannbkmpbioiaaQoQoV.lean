import Derived.Test.YtpannbkmpbioiaaQmQn
set_option linter.unusedVariables false
set_option linter.unusedSimpArgs false
namespace Go.Proofs.Ytpannbkmpbioiaa
open Go Go.Lg
attribute [local irreducible] bodyH
theorem pow_ok : powC.Ok Try.prog := by
  refine ⟨by kernel_rfl, fun args k hk => ?_⟩
  simp only [powC] at hk
  split at hk
  · rename_i n
    obtain ⟨hn, hk⟩ := hk
    have hh := pow_true (n := n.toNat) (by omega)
    unfold powG at hh
    rw [show ((n.toNat : Nat) : Int) = n by omega] at hh
    exact ⟨_, okV nil_cs nil_x nil_ic hh trivial, hk⟩
  · exact hk.elim
theorem csPow : SoundS Try.prog (ctrs [powC]) := ctrs_sound (by
  intro x hx
  simp only [List.mem_cons, List.not_mem_nil, or_false] at hx
  subst hx
  exact pow_ok)
theorem has_ok : hasC.Ok Try.prog := by
  refine ⟨by kernel_rfl, fun args k hk => ?_⟩
  simp only [hasC] at hk
  split at hk
  · rename_i o n
    obtain ⟨⟨ho, hn⟩, hk⟩ := hk
    have hh := has_true ho hn
    unfold hasG at hh
    exact ⟨_, okV csPow nil_x nil_ic hh trivial, hk⟩
  · exact hk.elim
structure bigP (w : Nw) (n : Int) : Prop where
  h : ((w.m.n : Int) > n ∧ (w.m.n : Int) ≤ 8) ∨ (w.m.n : Int) > 12 ∨ (w.j.n : Int) > 13
def bigC : Ctr := netC 10 fun w r k => match r with
  | [.int .i64 n] => k (.dec (bigP w n) (Classical.propDecidable _))
  | _ => False
def aliveC : Ctr := ⟨11, fun args k => match args with
  | [] => k (.bool true)
  | _ => False⟩
noncomputable def bigG (w : Nw) (n : Int) : Prop := funH Try.prog (ctrs []) noX (ictrs []) noL noL 10 [w.sv, i6 n] (.dec (bigP w n) (Classical.propDecidable _))
end Go.Proofs.Ytpannbkmpbioiaa

set_option maxRecDepth 100000
namespace Go.Proofs.Ytpannbkmpbioiaa
open Go Go.Lg
theorem bigG_vc (w : Nw) (n : Int) : bigG w n =
 ((0 : Nat) < (1 : Nat) ∧
  (n < (↑w.m.1 : Int) →
      (0 : Nat) < (1 : Nat) ∧
        ((↑w.m.1 : Int) ≤ (8 : Int) → (true = true ↔ bigP w n) ∧ True) ∧
          (¬(↑w.m.1 : Int) ≤ (8 : Int) →
            (0 : Nat) < (1 : Nat) ∧
              ((12 : Int) < (↑w.m.1 : Int) → (true = true ↔ bigP w n) ∧ True) ∧
                (¬(12 : Int) < (↑w.m.1 : Int) →
                  (0 : Nat) < (1 : Nat) ∧ ((13 : Int) < (↑w.j.1 : Int) ↔ bigP w n) ∧ True))) ∧
    (¬n < (↑w.m.1 : Int) →
      (0 : Nat) < (1 : Nat) ∧
        ((12 : Int) < (↑w.m.1 : Int) → (true = true ↔ bigP w n) ∧ True) ∧
          (¬(12 : Int) < (↑w.m.1 : Int) → (0 : Nat) < (1 : Nat) ∧ ((13 : Int) < (↑w.j.1 : Int) ↔ bigP w n) ∧ True))) := by kernel_rfl
end Go.Proofs.Ytpannbkmpbioiaa
