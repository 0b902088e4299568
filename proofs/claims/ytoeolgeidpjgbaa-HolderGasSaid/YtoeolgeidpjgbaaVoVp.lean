import Derived.Test.YtoeolgeidpjgbaaVk
set_option linter.unusedVariables false
namespace Go.Proofs.Ytoeolgeidpjgbaa
open Go Go.Lg
attribute [local irreducible] funS
noncomputable def mkG (a b : Int) : Prop := funS Try.prog (ctrs []) (fun _ => none) 33 [.int .i64 a, .int .i64 b] (.agg [.int .i64 a, .int .i64 b])
theorem mk_vc (a b : Int) : mkG a b = ((0 : Nat) < nat_lit 1 ∧ a = a ∧ b = b ∧ True) := by kernel_rfl
def mkC : Ctr := ⟨33, fun args k => match args with
  | [.int .i64 a, .int .i64 b] => k (.agg [.int .i64 a, .int .i64 b])
  | _ => False⟩
theorem mk_ok : mkC.Ok Try.prog := by
  refine ⟨by kernel_rfl, fun args k h => ?_⟩
  simp only [mkC] at h
  split at h
  · rename_i a b
    have hh : mkG a b := by rw [mk_vc]; simp
    unfold mkG at hh
    exact ⟨_, Does.plain (funS_does (ctrs_sound (by simp)) mixed hh) ⟨trivial, trivial, trivial⟩, h⟩
  · exact h.elim
noncomputable def csE : CSpec := ctrs [aliveC, mkC, volumeC 15, HeldC 17, validC 38]
theorem csE_sound : SoundS Try.prog csE := ctrs_sound (by
  intro x hx
  simp only [List.mem_cons, List.not_mem_nil, or_false] at hx
  rcases hx with rfl | rfl | rfl | rfl | rfl
  · exact alive_ok
  · exact mk_ok
  · exact volume_ok
  · exact Held_ok
  · exact lifts_ok)
def gI (A R : Nat → Int) : Nat → Int
  | 0 => 0
  | i + 1 => gI A R i + A i * R i
/-- the true height -/
def atI (a b u : Int) : Int := a + u.tmod (b - a + 1)
def isP (A : Nat → Int) (z : Int) (i : Nat) : Prop := ∃ j, j < i ∧ z = A j
noncomputable def gasS (n : Nat) (A R : Nat → Int) (at' v up e : Int) : Nat → Option LSpec := fun i => match i with
  | 0 => some (cntS n 283 227 (fun i => i ≤ n) fun i => mkF 283 [(0, lifts n A R), (10, .bool false), (13, .int .i64 at'), (15, .int .i64 v), (21, .int .i64 up), (22, .int .i64 e), (23, .dec (isP A (up - v) i) (Classical.propDecidable _)), (225, lifts n A R), (226, .int .i64 n), (227, .int .i64 i)])
  | 2 => some (cntS n 283 245 (fun i => i ≤ n) fun i => mkF 283 [(0, lifts n A R), (10, .bool false), (13, .int .i64 at'), (22, .int .i64 e), (26, .int .i64 (sI R i)), (27, .int .i64 (gI A R i)), (243, lifts n A R), (244, .int .i64 n), (245, .int .i64 i)])
  | _ => none
noncomputable def gasG (n : Nat) (A R : Nat → Int) (a b c d u w : Int) : Prop :=
  funS Try.prog csE (gasS n A R (atI a b u) (volV n A R (atI a b u)) (volV n A R (atI a b u + 1)) (volE n A R (atI a b u + 1))) 12
    [lifts n A R, .agg [.int .i64 a, .int .i64 b], .agg [.int .i64 c, .int .i64 d], .int .u16 u, .int .u16 w] (.bool true)
end Go.Proofs.Ytoeolgeidpjgbaa

set_option linter.unusedVariables false
namespace Go.Proofs.Ytoeolgeidpjgbaa
open Go Go.Lg
attribute [local irreducible] funS
def LQ (n : Nat) (A R : Nat → Int) (X : Prop) : Prop := n = n ∧ (∀ i : Nat, i < n → (lf A R i).den = (lf A R i).den ∧ True ∧ True ∧ True) ∧ X
theorem LQ_eq {n A R X} : LQ n A R X = X := by simp [LQ]
def back (n z : Nat) (A R : Nat → Int) (X : Prop) : Prop := i64 ((z : Int) + 1) ∧ ((z : Int) + 1).toNat.le n ∧ n - ((z : Int) + 1).toNat < n - z ∧ X
def fin' (n : Nat) (A R : Nat → Int) (at' e : Int) : Prop :=
  ((Int.toNat 0).le n ∧ LQ n A R (false = false ∧ at' = at' ∧ e = e ∧ (0 : Int) = sI R (Int.toNat 0) ∧ (0 : Int) = gI A R (Int.toNat 0) ∧ LQ n A R ((n : Int) = n ∧ (0 : Int) = ((Int.toNat 0 : Nat) : Int) ∧ True))) ∧
  ∀ z : Nat, z.le n → ((z : Int) < n → 0 ≤ (z : Int) ∧ (z : Int) < n ∧ (0 : Nat) < nat_lit 1 ∧ (0 : Nat) < nat_lit 1 ∧ i64 (A (z : Int).toNat * R (z : Int).toNat) ∧ i64 (gI A R z + A (z : Int).toNat * R (z : Int).toNat) ∧ (0 : Nat) < nat_lit 1 ∧ i64 (sI R z + R (z : Int).toNat) ∧
    pre n A R ((¬ (volV n A R (sI R z + R (z : Int).toNat) = gI A R z + A (z : Int).toNat * R (z : Int).toNat) → false = true ∧ True) ∧ (¬¬ (volV n A R (sI R z + R (z : Int).toNat) = gI A R z + A (z : Int).toNat * R (z : Int).toNat) →
      (¬ (volE n A R (sI R z + R (z : Int).toNat) = 0) → false = true ∧ True) ∧ (¬¬ (volE n A R (sI R z + R (z : Int).toNat) = 0) →
        back n z A R (LQ n A R (false = false ∧ at' = at' ∧ e = e ∧ sI R z + R (z : Int).toNat = sI R ((z : Int) + 1).toNat ∧ gI A R z + A (z : Int).toNat * R (z : Int).toNat = gI A R ((z : Int) + 1).toNat ∧ LQ n A R ((n : Int) = n ∧ (z : Int) + 1 = ((((z : Int) + 1).toNat : Nat) : Int) ∧ True))))))) ∧
   (¬ (z : Int) < n → ((e = 0 ↔ at' < sI R z) → true = true ∧ True) ∧ (¬ (e = 0 ↔ at' < sI R z) → false = true ∧ True))
def loop1 (n : Nat) (A R : Nat → Int) (at' v up e : Int) : Prop :=
  ((Int.toNat 0).le n ∧ LQ n A R (false = false ∧ at' = at' ∧ v = v ∧ up = up ∧ e = e ∧ (false = true ↔ isP A (up - v) (Int.toNat 0)) ∧ LQ n A R ((n : Int) = n ∧ (0 : Int) = ((Int.toNat 0 : Nat) : Int) ∧ True))) ∧
  ∀ z : Nat, z.le n → ((z : Int) < n → 0 ≤ (z : Int) ∧ (z : Int) < n ∧
     (isP A (up - v) z → back n z A R (LQ n A R (false = false ∧ at' = at' ∧ v = v ∧ up = up ∧ e = e ∧ (true = true ↔ isP A (up - v) ((z : Int) + 1).toNat) ∧ LQ n A R ((n : Int) = n ∧ (z : Int) + 1 = ((((z : Int) + 1).toNat : Nat) : Int) ∧ True)))) ∧
     (¬ isP A (up - v) z → i64 (up - v) ∧ (0 : Nat) < nat_lit 1 ∧ back n z A R (LQ n A R (false = false ∧ at' = at' ∧ v = v ∧ up = up ∧ e = e ∧ (up - v = A (z : Int).toNat ↔ isP A (up - v) ((z : Int) + 1).toNat) ∧ LQ n A R ((n : Int) = n ∧ (z : Int) + 1 = ((((z : Int) + 1).toNat : Nat) : Int) ∧ True))))) ∧
   (¬ (z : Int) < n → (¬ isP A (up - v) z → false = true ∧ True) ∧ (¬¬ isP A (up - v) z → fin' n A R at' e))
def rest (n : Nat) (A R : Nat → Int) (at' v up e : Int) : Prop := i64 (at' + 1) ∧ pre n A R ((e = 0 → loop1 n A R at' v up e) ∧ (¬ e = 0 → fin' n A R at' e))
def main' (n : Nat) (A R : Nat → Int) (a b c d u w X0 Y0 E0 at' t v ve xl xh xe yl yh ye : Int) (REST : Prop) : Prop := (8 < (n : Int) → true = true ∧ True) ∧ (¬ 8 < (n : Int) → (0 : Nat) < nat_lit 1 ∧ (0 : Nat) < nat_lit 1 ∧ pre n A R ((¬ E0 = 0 → (0 : Nat) < nat_lit 1 ∧ (X0 = 0 ∧ Y0 = 0 → pre n A R (((E0 = 1 ↔ ¬ vL n A R) → true = true ∧ True) ∧ (¬ (E0 = 1 ↔ ¬ vL n A R) → false = true ∧ True))) ∧ (¬ (X0 = 0 ∧ Y0 = 0) → false = true ∧ True)) ∧ (¬¬ E0 = 0 → pre n A R ((¬ (vL n A R) → false = true ∧ True) ∧ (¬¬ (vL n A R) → (0 : Nat) < nat_lit 1 ∧ (0 : Nat) < nat_lit 1 ∧ ((Y0 < X0) → false = true ∧ True) ∧ (¬ (Y0 < X0) → (0 : Nat) < nat_lit 1 ∧ ((X0 < 0) → false = true ∧ True) ∧ (¬ (X0 < 0) → (0 : Nat) < nat_lit 1 ∧ i64 u ∧ (0 : Nat) < nat_lit 1 ∧ (0 : Nat) < nat_lit 1 ∧ i64 (b - a) ∧ i64 (b - a + 1) ∧ (b - a + 1 = 0 → False) ∧ i64 at' ∧ (0 : Nat) < nat_lit 1 ∧ i64 w ∧ (0 : Nat) < nat_lit 1 ∧ (0 : Nat) < nat_lit 1 ∧ i64 (d - c) ∧ i64 (d - c + 1) ∧ (d - c + 1 = 0 → False) ∧ i64 t ∧ pre n A R (pre n A R (pre n A R ((¬ (ve = 0) → false = true ∧ True) ∧ (¬¬ (ve = 0) → (¬ (xe = 0) → false = true ∧ True) ∧ (¬¬ (xe = 0) → (¬ (ye = 0) → false = true ∧ True) ∧ (¬¬ (ye = 0) → (0 : Nat) < nat_lit 1 ∧ (¬ (yl = v ∧ yh = v) → false = true ∧ True) ∧ (¬¬ (yl = v ∧ yh = v) → (0 : Nat) < nat_lit 1 ∧ (0 : Nat) < nat_lit 1 ∧ ((xl < X0) → false = true ∧ True) ∧ (¬ (xl < X0) → (0 : Nat) < nat_lit 1 ∧ (0 : Nat) < nat_lit 1 ∧ ((Y0 < xh) → false = true ∧ True) ∧ (¬ (Y0 < xh) → (0 : Nat) < nat_lit 1 ∧ (0 : Nat) < nat_lit 1 ∧ i64 (xh - xl) ∧ ((1 < xh - xl) → false = true ∧ True) ∧ (¬ (1 < xh - xl) → (0 : Nat) < nat_lit 1 ∧ i64 (500 + t) ∧ i64 (xl * (500 + t)) ∧ i64 (500 * v) ∧ ((500 * v < xl * (500 + t)) → false = true ∧ True) ∧ (¬ (500 * v < xl * (500 + t)) → (0 : Nat) < nat_lit 1 ∧ i64 (500 + t) ∧ i64 (xh * (500 + t)) ∧ i64 (500 * v) ∧ ((xh * (500 + t) < 500 * v) → false = true ∧ True) ∧ (¬ (xh * (500 + t) < 500 * v) → (0 : Nat) < nat_lit 1 ∧ i64 (xl + 1) ∧ i64 (500 + t) ∧ i64 ((xl + 1) * (500 + t)) ∧ i64 (500 * v) ∧ (((xl + 1) * (500 + t) ≤ 500 * v) → (0 : Nat) < nat_lit 1 ∧ (0 : Nat) < nat_lit 1 ∧ (¬ (xl = xh) → false = true ∧ True) ∧ (¬¬ (xl = xh) → (0 : Nat) < nat_lit 1 ∧ (0 : Nat) < nat_lit 1 ∧ (xl = xh → (0 : Nat) < nat_lit 1 ∧ i64 (500 + t) ∧ i64 (xl * (500 + t)) ∧ i64 (500 * v) ∧ (¬ (xl * (500 + t) = 500 * v) → false = true ∧ True) ∧ (¬¬ (xl * (500 + t) = 500 * v) → REST)) ∧ (¬ xl = xh → REST))) ∧ (¬ ((xl + 1) * (500 + t) ≤ 500 * v) → (0 : Nat) < nat_lit 1 ∧ (0 : Nat) < nat_lit 1 ∧ (xl = xh → (0 : Nat) < nat_lit 1 ∧ i64 (500 + t) ∧ i64 (xl * (500 + t)) ∧ i64 (500 * v) ∧ (¬ (xl * (500 + t) = 500 * v) → false = true ∧ True) ∧ (¬¬ (xl * (500 + t) = 500 * v) → REST)) ∧ (¬ xl = xh → REST)))))))))))))))))))))
theorem gasG_vc (n : Nat) (A R : Nat → Int) (a b c d u w : Int) : gasG n A R a b c d u w =
  main' n A R a b c d u w (hX n A R a b c d) (hY n A R a b c d) (hE n A R a b c d) (atI a b u) (atI c d w) (volV n A R (atI a b u)) (volE n A R (atI a b u))
    (hX n A R (atI a b u) (atI a b u) (atI c d w) (atI c d w)) (hY n A R (atI a b u) (atI a b u) (atI c d w) (atI c d w)) (hE n A R (atI a b u) (atI a b u) (atI c d w) (atI c d w))
    (hX n A R (atI a b u) (atI a b u) 0 0) (hY n A R (atI a b u) (atI a b u) 0 0) (hE n A R (atI a b u) (atI a b u) 0 0)
    (rest n A R (atI a b u) (volV n A R (atI a b u)) (volV n A R (atI a b u + 1)) (volE n A R (atI a b u + 1))) := by kernel_rfl
end Go.Proofs.Ytoeolgeidpjgbaa
