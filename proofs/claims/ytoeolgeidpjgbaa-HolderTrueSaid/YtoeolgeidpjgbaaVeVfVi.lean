import Derived.Test.YtoeolgeidpjgbaaVaVbVcVdXaXbXcXd
set_option linter.unusedVariables false
namespace Go.Proofs.Ytoeolgeidpjgbaa
open Go Go.Lg
attribute [local irreducible] funS
def prA : SV → Int
  | .agg [.int _ a, .int _ _] => a
  | _ => 0
def prR : SV → Int
  | .agg [.int _ _, .int _ r] => r
  | _ => 0
def lstC (g : FuncId) (C : Nat → (Nat → Int) → (Nat → Int) → List SV → (SV → Prop) → Prop) : Ctr := ⟨g, fun args k => match args with
  | .lst sz n f :: r => sz = 2 ∧ f = (fun i => .agg [.int .i64 (prA (f i)), .int .i64 (prR (f i))]) ∧ C n (fun i => prA (f i)) (fun i => prR (f i)) r k
  | _ => False⟩
def validC (g : FuncId) : Ctr := lstC g fun n A R r k => match r with
  | [] => k (.dec (vL n A R) (Classical.propDecidable _))
  | _ => False
def topC (g : FuncId) : Ctr := lstC g fun n A R r k => match r with
  | [] => vL n A R ∧ k (.int .i64 (sI R n))
  | _ => False
def volC (g : FuncId) : Ctr := lstC g fun n A R r k => match r with
  | [.int .i64 h] => (vL n A R ∧ 0 ≤ h ∧ h ≤ 1000000) ∧ k (.int .i64 (vI A R h n))
  | _ => False
theorem csA_sound : SoundS Try.prog csA := ctrs_sound (by
  intro x hx
  simp only [List.mem_cons, List.not_mem_nil, or_false] at hx
  rcases hx with rfl | rfl
  · exact isFrom_ok
  · exact in_ok)
noncomputable def csB : CSpec := ctrs [fromC 40, fromC 43, spanC 46, spanC 48, validC 39, validC 38, topC 41, topC 44, volC 42, volC 45]
def volZ (n : Nat) (A R : Nat → Int) (h : Int) (v e : Int) : Prop := (¬ vL n A R → v = 0 ∧ e = 1) ∧ (vL n A R → (¬ (0 ≤ h ∧ h ≤ sI R n) → v = 0 ∧ e = 2) ∧ ((0 ≤ h ∧ h ≤ sI R n) → v = vI A R h n ∧ e = 0))
noncomputable def volumeG (n : Nat) (A R : Nat → Int) (h v e : Int) : Prop := funS Try.prog csB (fun _ => none) 15 [lifts n A R, .int .i64 h] (.tup [.int .i64 v, .int .i64 e])
noncomputable def volumeG' (n : Nat) (A R : Nat → Int) (h v e : Int) : Prop := funS Try.prog csB (fun _ => none) 16 [lifts n A R, .int .i64 h] (.tup [.int .i64 v, .int .i64 e])
noncomputable def heldG (n : Nat) (A R : Nat → Int) (a b c d : Int) (x y : Int) : Prop := funS Try.prog csB (fun _ => none) 47 [lifts n A R, .agg [.int .i64 a, .int .i64 b], .agg [.int .i64 c, .int .i64 d]] (.agg [.int .i64 x, .int .i64 y])
end Go.Proofs.Ytoeolgeidpjgbaa

set_option linter.unusedVariables false
namespace Go.Proofs.Ytoeolgeidpjgbaa
open Go Go.Lg
attribute [local irreducible] funS
open Classical in
noncomputable def volV (n : Nat) (A R : Nat → Int) (h : Int) : Int := if vL n A R then (if 0 ≤ h ∧ h ≤ sI R n then vI A R h n else 0) else 0
open Classical in
noncomputable def volE (n : Nat) (A R : Nat → Int) (h : Int) : Int := if vL n A R then (if 0 ≤ h ∧ h ≤ sI R n then 0 else 2) else 1
def lf (A R : Nat → Int) : Nat → SV := fun i => .agg [.int .i64 (A i), .int .i64 (R i)]
def pre (n : Nat) (A R : Nat → Int) (X : Prop) : Prop := (∀ i : Nat, i < n → True ∧ True ∧ True) ∧ (2 : Nat) = 2 ∧ lf A R = lf A R ∧ X
def i64 (z : Int) : Prop := (-9223372036854775808 : Int) ≤ z ∧ z ≤ (9223372036854775807 : Int)
def heldLo (n : Nat) (A R : Nat → Int) (a d : Int) : Int := (500 * vI A R a n).tdiv (500 + d)
def heldHi (n : Nat) (A R : Nat → Int) (b c : Int) : Int := (500 * vI A R b n + (500 + c) - 1).tdiv (500 + c)
def okH (n : Nat) (A R : Nat → Int) (a b c d : Int) : Prop := vL n A R ∧ (0 ≤ a ∧ a ≤ 1000000) ∧ (0 ≤ b ∧ b ≤ 1000000) ∧ (-150 ≤ c ∧ c ≤ 150) ∧ (-150 ≤ d ∧ d ≤ 150)
def volumeC (g : FuncId) : Ctr := lstC g fun n A R r k => match r with
  | [.int .i64 h] => k (.tup [.int .i64 (volV n A R h), .int .i64 (volE n A R h)])
  | _ => False
def heldC (g : FuncId) : Ctr := lstC g fun n A R r k => match r with
  | [.agg [.int .i64 a, .int .i64 b], .agg [.int .i64 c, .int .i64 d]] => okH n A R a b c d ∧ k (.agg [.int .i64 (heldLo n A R a d), .int .i64 (heldHi n A R b c)])
  | _ => False
noncomputable def csC : CSpec := ctrs [heldC 47, fromC 40, fromC 43, spanC 46, spanC 48, validC 39, validC 38, topC 41, topC 44, volC 42, volC 45]
noncomputable def HeldG (n : Nat) (A R : Nat → Int) (a b c d : Int) (x y e : Int) : Prop := funS Try.prog csC (fun _ => none) 17 [lifts n A R, .agg [.int .i64 a, .int .i64 b], .agg [.int .i64 c, .int .i64 d]] (.tup [.agg [.int .i64 x, .int .i64 y], .int .i64 e])
noncomputable def HeldG' (n : Nat) (A R : Nat → Int) (a b c d : Int) (x y e : Int) : Prop := funS Try.prog csC (fun _ => none) 18 [lifts n A R, .agg [.int .i64 a, .int .i64 b], .agg [.int .i64 c, .int .i64 d]] (.tup [.agg [.int .i64 x, .int .i64 y], .int .i64 e])
end Go.Proofs.Ytoeolgeidpjgbaa

set_option linter.unusedVariables false
namespace Go.Proofs.Ytoeolgeidpjgbaa
open Go Go.Lg
attribute [local irreducible] funS
def okS (n : Nat) (R : Nat → Int) (a b c d : Int) : Prop := (0 ≤ a ∧ a ≤ b ∧ b ≤ sI R n) ∧ (-150 ≤ c ∧ c ≤ d ∧ d ≤ 150)
open Classical in
noncomputable def hX (n : Nat) (A R : Nat → Int) (a b c d : Int) : Int := if vL n A R ∧ okS n R a b c d then heldLo n A R a d else 0
open Classical in
noncomputable def hY (n : Nat) (A R : Nat → Int) (a b c d : Int) : Int := if vL n A R ∧ okS n R a b c d then heldHi n A R b c else 0
open Classical in
noncomputable def hE (n : Nat) (A R : Nat → Int) (a b c d : Int) : Int := if vL n A R then (if okS n R a b c d then 0 else 2) else 1
def HeldC (g : FuncId) : Ctr := lstC g fun n A R r k => match r with
  | [.agg [.int .i64 a, .int .i64 b], .agg [.int .i64 c, .int .i64 d]] => k (.tup [.agg [.int .i64 (hX n A R a b c d), .int .i64 (hY n A R a b c d)], .int .i64 (hE n A R a b c d)])
  | _ => False
def aliveC : Ctr := ⟨14, fun args k => match args with
  | [] => k (.bool true)
  | _ => False⟩
noncomputable def csD : CSpec := ctrs [aliveC, volumeC 15, volumeC 16, HeldC 17, HeldC 18]
noncomputable def lawG (n : Nat) (A R : Nat → Int) (h a b c d : Int) : Prop := funS Try.prog csD (fun _ => none) 3 [lifts n A R, .int .i64 h, .agg [.int .i64 a, .int .i64 b], .agg [.int .i64 c, .int .i64 d]] (.bool true)
end Go.Proofs.Ytoeolgeidpjgbaa
