import Derived.Test.YtifjghgejnkdoaaRows
import Derived.Test.YtifjghgejnkdoaaMkMl
import Derived.Test.YtifjghgejnkdoaaIcIcVId
set_option linter.unusedVariables false
set_option linter.unusedSimpArgs false
namespace Go.Proofs.Ytifjghgejnkdoaa
open Go Go.Lg
abbrev I (n : Nat) : AV := .sc (.int .i64 (.ofNat n))
abbrev J (n : Nat) : AV := .sc (.int .i64 (.negSucc n))
abbrev q1 : List AV := [I 1, I 4, .isl 2 [.agg [I 0, I 0], .agg [I 0, I 0], .agg [I 3, I 3]], I 1, I 2]
abbrev q2 : List AV := [I 0, I 0, I 0, I 0, I 20, I 20, I 0, I 0, I 1, I 1, I 0, I 0, I 0, I 0, I 0, I 0, I 0]
abbrev q3 : List AV := [I 0, I 0, I 0, I 0, I 0, I 0, I 0, I 0, I 0, I 0, I 0, I 0, I 0, I 0, I 0, I 0, I 0]
abbrev q4 : List AV := [I 3, I 0, I 0, I 0, I 2, I 2, I 6, I 9, I 4, I 7, I 0, I 0, I 0, I 0, I 0, I 0, I 15]
abbrev q5 : List AV := [I 2, I 0, I 0, I 0, I 8, I 8, I 4, I 6, I 3, I 5, I 0, I 0, I 0, I 0, I 0, I 0, I 10]
abbrev q6 : List AV := [I 0, I 6, .isl 2 [.agg [I 0, I 0], .agg [I 2, I 3], .agg [I 1, I 2]], I 5, I 4]
abbrev q0 : List AV := [.agg [.isl 1 [I 20, I 0, I 1], .isl 5 [.agg q6, .agg q1], .isl 3 [.agg [I 2, I 5, I 9], .agg [I 1, I 10, I 4], .agg [I 0, I 30, I 2]]]]
def Aw0 : Fact := ⟨25, q0, 4, (.node (.node (.node (.leaf (some ⟨3, q0, none⟩)) .nil .nil .nil .nil .nil .nil .nil) .nil .nil .nil .nil .nil .nil .nil) (.node (.node (.leaf (some ⟨3, q0, none⟩)) .nil .nil .nil .nil .nil .nil .nil) .nil .nil .nil .nil .nil .nil .nil) (.node (.node (.leaf (some ⟨3, q0, none⟩)) .nil .nil .nil .nil .nil .nil .nil) .nil .nil .nil .nil .nil .nil .nil) (.node (.node (.leaf (some ⟨17, [.agg q3], none⟩)) .nil .nil .nil .nil .nil .nil .nil) .nil .nil .nil .nil .nil .nil .nil) .nil .nil .nil .nil), .sc (.bool true), 4, 4, (.node (.node (.node (.leaf (some ⟨3, q0, none⟩)) .nil .nil .nil .nil .nil .nil .nil) .nil .nil .nil .nil .nil .nil .nil) (.node (.node (.leaf (some ⟨3, q0, none⟩)) .nil .nil .nil .nil .nil .nil .nil) .nil .nil .nil .nil .nil .nil .nil) (.node (.node (.leaf (some ⟨3, q0, none⟩)) .nil .nil .nil .nil .nil .nil .nil) .nil .nil .nil .nil .nil .nil .nil) (.node (.node (.leaf (some ⟨17, [.agg q3], none⟩)) .nil .nil .nil .nil .nil .nil .nil) .nil .nil .nil .nil .nil .nil .nil) .nil .nil .nil .nil)⟩
theorem Aw0_ok : FactOK Try.prog Aw0 := chkF_ok (k := 300) (by kernel_rfl) (T := []) facts_nil (by kernel_rfl)
def Aw1 : Fact := ⟨46, [.agg q2, I 0, .agg q6, I 3], 0, .nil, .tup [.agg q4, .sc (.bool true)], 0, 0, .nil⟩
theorem Aw1_ok : FactOK Try.prog Aw1 := chkF_ok (k := 300) (by kernel_rfl) (T := []) facts_nil (by kernel_rfl)
def Aw2 : Fact := ⟨46, [.agg q4, I 1, .agg q1, I 1], 0, .nil, .tup [.agg [I 3, I 1, I 0, I 0, I 2, I 2, I 2, I 5, I 7, I 10, I 0, I 0, I 0, I 0, I 0, I 0, I 16], .sc (.bool true)], 0, 0, .nil⟩
theorem Aw2_ok : FactOK Try.prog Aw2 := chkF_ok (k := 300) (by kernel_rfl) (T := []) facts_nil (by kernel_rfl)
def Aw3 : Fact := ⟨25, q0, 5, (.node (.node (.node (.leaf (some ⟨3, q0, none⟩)) .nil .nil .nil .nil .nil .nil .nil) .nil .nil .nil .nil .nil .nil .nil) (.node (.node (.leaf (some ⟨2, [.agg [I 2, I 2], .agg [I 2, I 5], .agg [I 7, I 10]], none⟩)) .nil .nil .nil .nil .nil .nil .nil) .nil .nil .nil .nil .nil .nil .nil) (.node (.node (.leaf (some ⟨3, q0, none⟩)) .nil .nil .nil .nil .nil .nil .nil) .nil .nil .nil .nil .nil .nil .nil) (.node (.node (.leaf (some ⟨3, q0, none⟩)) .nil .nil .nil .nil .nil .nil .nil) .nil .nil .nil .nil .nil .nil .nil) (.node (.node (.leaf (some ⟨17, [.agg q3], none⟩)) .nil .nil .nil .nil .nil .nil .nil) .nil .nil .nil .nil .nil .nil .nil) .nil .nil .nil), .sc (.bool true), 5, 5, (.node (.node (.node (.leaf (some ⟨3, q0, none⟩)) .nil .nil .nil .nil .nil .nil .nil) .nil .nil .nil .nil .nil .nil .nil) (.node (.node (.leaf (some ⟨2, [.agg [I 2, I 2], .agg [I 2, I 5], .agg [I 7, I 10]], none⟩)) .nil .nil .nil .nil .nil .nil .nil) .nil .nil .nil .nil .nil .nil .nil) (.node (.node (.leaf (some ⟨3, q0, none⟩)) .nil .nil .nil .nil .nil .nil .nil) .nil .nil .nil .nil .nil .nil .nil) (.node (.node (.leaf (some ⟨3, q0, none⟩)) .nil .nil .nil .nil .nil .nil .nil) .nil .nil .nil .nil .nil .nil .nil) (.node (.node (.leaf (some ⟨17, [.agg q3], none⟩)) .nil .nil .nil .nil .nil .nil .nil) .nil .nil .nil .nil .nil .nil .nil) .nil .nil .nil)⟩
theorem Aw3_ok : FactOK Try.prog Aw3 := chkF_ok (k := 300) (by kernel_rfl) (T := []) facts_nil (by kernel_rfl)
def Aw4 : Fact := ⟨46, [.agg q2, I 0, .agg q6, I 1], 0, .nil, .tup [.agg [I 1, I 0, I 0, I 0, I 14, I 14, I 2, I 3, I 2, I 3, I 0, I 0, I 0, I 0, I 0, I 0, I 5], .sc (.bool true)], 0, 0, .nil⟩
theorem Aw4_ok : FactOK Try.prog Aw4 := chkF_ok (k := 300) (by kernel_rfl) (T := []) facts_nil (by kernel_rfl)
def Aw5 : Fact := ⟨46, [.agg [I 1, I 0, I 0, I 0, I 14, I 14, I 2, I 3, I 2, I 3, I 0, I 0, I 0, I 0, I 0, I 0, I 5], I 1, .agg q1, I 1], 0, .nil, .tup [.agg q3, .sc (.bool false)], 0, 0, .nil⟩
theorem Aw5_ok : FactOK Try.prog Aw5 := chkF_ok (k := 300) (by kernel_rfl) (T := []) facts_nil (by kernel_rfl)
def Aw6 : Fact := ⟨25, q0, 5, (.node (.node (.node (.leaf (some ⟨3, q0, none⟩)) .nil .nil .nil .nil .nil .nil .nil) .nil .nil .nil .nil .nil .nil .nil) (.node (.node (.leaf (some ⟨2, [.agg [I 2, I 2], .agg [I 2, I 5], .agg [I 7, I 10]], none⟩)) .nil .nil .nil .nil .nil .nil .nil) .nil .nil .nil .nil .nil .nil .nil) (.node (.node (.leaf (some ⟨1, [.agg [I 5], .agg [I 2], .agg [I 2]], none⟩)) .nil .nil .nil .nil .nil .nil .nil) .nil .nil .nil .nil .nil .nil .nil) (.node (.node (.leaf (some ⟨3, q0, none⟩)) .nil .nil .nil .nil .nil .nil .nil) .nil .nil .nil .nil .nil .nil .nil) (.node (.node (.leaf (some ⟨1, [I 0], none⟩)) .nil .nil .nil .nil .nil .nil .nil) .nil .nil .nil .nil .nil .nil .nil) .nil .nil .nil), .sc (.bool true), 5, 5, (.node (.node (.node (.leaf (some ⟨3, q0, none⟩)) .nil .nil .nil .nil .nil .nil .nil) .nil .nil .nil .nil .nil .nil .nil) (.node (.node (.leaf (some ⟨2, [.agg [I 2, I 2], .agg [I 2, I 5], .agg [I 7, I 10]], none⟩)) .nil .nil .nil .nil .nil .nil .nil) .nil .nil .nil .nil .nil .nil .nil) (.node (.node (.leaf (some ⟨1, [.agg [I 5], .agg [I 2], .agg [I 2]], none⟩)) .nil .nil .nil .nil .nil .nil .nil) .nil .nil .nil .nil .nil .nil .nil) (.node (.node (.leaf (some ⟨3, q0, none⟩)) .nil .nil .nil .nil .nil .nil .nil) .nil .nil .nil .nil .nil .nil .nil) (.node (.node (.leaf (some ⟨1, [I 0], none⟩)) .nil .nil .nil .nil .nil .nil .nil) .nil .nil .nil .nil .nil .nil .nil) .nil .nil .nil)⟩
theorem Aw6_ok : FactOK Try.prog Aw6 := chkF_ok (k := 300) (by kernel_rfl) (T := []) facts_nil (by kernel_rfl)
def Aw7 : Fact := ⟨46, [.agg q2, I 0, .agg q6, I 0], 0, .nil, .tup [.agg q2, .sc (.bool true)], 0, 0, .nil⟩
theorem Aw7_ok : FactOK Try.prog Aw7 := chkF_ok (k := 300) (by kernel_rfl) (T := []) facts_nil (by kernel_rfl)
def Aw8 : Fact := ⟨46, [.agg q2, I 1, .agg q1, I 0], 0, .nil, .tup [.agg q2, .sc (.bool true)], 0, 0, .nil⟩
theorem Aw8_ok : FactOK Try.prog Aw8 := chkF_ok (k := 300) (by kernel_rfl) (T := []) facts_nil (by kernel_rfl)
def Aw9 : Fact := ⟨46, [.agg q2, I 1, .agg q1, I 1], 0, .nil, .tup [.agg q3, .sc (.bool false)], 0, 0, .nil⟩
theorem Aw9_ok : FactOK Try.prog Aw9 := chkF_ok (k := 300) (by kernel_rfl) (T := []) facts_nil (by kernel_rfl)
def Aw10 : Fact := ⟨46, [.agg [I 1, I 0, I 0, I 0, I 14, I 14, I 2, I 3, I 2, I 3, I 0, I 0, I 0, I 0, I 0, I 0, I 5], I 1, .agg q1, I 0], 0, .nil, .tup [.agg [I 1, I 0, I 0, I 0, I 14, I 14, I 2, I 3, I 2, I 3, I 0, I 0, I 0, I 0, I 0, I 0, I 5], .sc (.bool true)], 0, 0, .nil⟩
theorem Aw10_ok : FactOK Try.prog Aw10 := chkF_ok (k := 300) (by kernel_rfl) (T := []) facts_nil (by kernel_rfl)
def Aw11 : Fact := ⟨46, [.agg q2, I 0, .agg q6, I 2], 0, .nil, .tup [.agg q5, .sc (.bool true)], 0, 0, .nil⟩
theorem Aw11_ok : FactOK Try.prog Aw11 := chkF_ok (k := 300) (by kernel_rfl) (T := []) facts_nil (by kernel_rfl)
def Aw12 : Fact := ⟨46, [.agg q5, I 1, .agg q1, I 0], 0, .nil, .tup [.agg q5, .sc (.bool true)], 0, 0, .nil⟩
theorem Aw12_ok : FactOK Try.prog Aw12 := chkF_ok (k := 300) (by kernel_rfl) (T := []) facts_nil (by kernel_rfl)
def Aw13 : Fact := ⟨46, [.agg q5, I 1, .agg q1, I 1], 0, .nil, .tup [.agg [I 2, I 1, I 0, I 0, I 8, I 8, I 0, I 2, I 6, I 8, I 0, I 0, I 0, I 0, I 0, I 0, I 11], .sc (.bool true)], 0, 0, .nil⟩
theorem Aw13_ok : FactOK Try.prog Aw13 := chkF_ok (k := 300) (by kernel_rfl) (T := []) facts_nil (by kernel_rfl)
def Aw14 : Fact := ⟨46, [.agg q5, I 1, .agg q1, I 2], 0, .nil, .tup [.agg q3, .sc (.bool false)], 0, 0, .nil⟩
theorem Aw14_ok : FactOK Try.prog Aw14 := chkF_ok (k := 300) (by kernel_rfl) (T := []) facts_nil (by kernel_rfl)
def Aw15 : Fact := ⟨46, [.agg q4, I 1, .agg q1, I 0], 0, .nil, .tup [.agg q4, .sc (.bool true)], 0, 0, .nil⟩
theorem Aw15_ok : FactOK Try.prog Aw15 := chkF_ok (k := 300) (by kernel_rfl) (T := []) facts_nil (by kernel_rfl)
def Aw16 : Fact := ⟨46, [.agg q4, I 1, .agg q1, I 2], 0, .nil, .tup [.agg q3, .sc (.bool false)], 0, 0, .nil⟩
theorem Aw16_ok : FactOK Try.prog Aw16 := chkF_ok (k := 300) (by kernel_rfl) (T := []) facts_nil (by kernel_rfl)
def Aw17 : Fact := ⟨46, [.agg q2, I 0, .agg q6, I 4], 0, .nil, .tup [.agg q3, .sc (.bool false)], 0, 0, .nil⟩
theorem Aw17_ok : FactOK Try.prog Aw17 := chkF_ok (k := 300) (by kernel_rfl) (T := []) facts_nil (by kernel_rfl)
theorem Aw_mixed : Try.prog.follows .mixedOrders = true := by kernel_rfl
theorem Aw_does : Does Try.prog 10 false [] (.sc (.bool true)) := runTrueT_does (k := 300) Aw_mixed (T := [Aw0, Aw1, Aw2, Aw3, Aw4, Aw5, Aw6, Aw7, Aw8, Aw9, Aw10, Aw11, Aw12, Aw13, Aw14, Aw15, Aw16, Aw17]) (facts_cons Aw0_ok (facts_cons Aw1_ok (facts_cons Aw2_ok (facts_cons Aw3_ok (facts_cons Aw4_ok (facts_cons Aw5_ok (facts_cons Aw6_ok (facts_cons Aw7_ok (facts_cons Aw8_ok (facts_cons Aw9_ok (facts_cons Aw10_ok (facts_cons Aw11_ok (facts_cons Aw12_ok (facts_cons Aw13_ok (facts_cons Aw14_ok (facts_cons Aw15_ok (facts_cons Aw16_ok (facts_cons Aw17_ok facts_nil)))))))))))))))))) (by kernel_rfl)
end Go.Proofs.Ytifjghgejnkdoaa

namespace Go.Proofs.Ytifjghgejnkdoaa
open Go Go.Lg
attribute [local irreducible] bodyH funS
def awC : Ctr := ⟨10, fun args k => match args with
  | [] => k (.bool true)
  | _ => False⟩
def spC : Ctr := ⟨23, fun args k => match args with
  | [.int .i64 a, .int .i64 b] => k (.agg [i6 a, i6 b])
  | _ => False⟩
noncomputable def spG (a b : Int) : Prop := funH Try.prog (ctrs []) noX (ictrs []) noL noL 23 [i6 a, i6 b] (.agg [i6 a, i6 b])
def u32L (m : Nat) (b : Nat → Int) : SV := .lst 1 m fun i => .int .u32 (b i)
noncomputable def tuW (W : Wl) (t : Int) : Wl := ⟨W.n, fun i => W.f (((i : Int) + t).tmod W.n).toNat⟩
noncomputable def csT : CSpec := ctrs [nilC 4 (Wg.sv ⟨0, 0, 0, 0⟩) 0 caC, rwC, spC, awC]
noncomputable def tcL (W : Wl) (m : Nat) (b : Nat → Int) (t : Int) : Nat → Option HSpec :=
  twoL 0 (natH (fun k => k ≤ W.n) (fun k => W.n - k) 1 (fun k => mkF 277 [(0, W.sv), (7, twL (caN W) (ldL W)), (8, .ptr 0 0 0), (10, .dec (W.n ≤ 32 ∧ ∀ i, i < k → okW (W.f i)) (Classical.propDecidable _)), (11, i6 k)]) (fun _ => mkX [vr 2 (caA W).sv]) fun _ => none) <|
  oneL 2 (appN 277 13 (fun k => k ≤ W.n) (fun k => W.n - k) 2 (fun k => mkF 277 [(0, W.sv), (1, u32L m b), (2, .int .u8 t), (7, twL (caN W) (ldL W)), (8, .ptr 0 0 0), (12, .ptr 1 0 0), (13, .sl 2 0 k), (14, i6 k)])
    fun k => mkX [vr 2 (caA W).sv, vr 2 (smJ (ldL W) k).sv, rw' 4 k fun i => ((tuW W t).f i).sv])
noncomputable def tcG (W : Wl) (m : Nat) (b : Nat → Int) (t : Int) : Prop := funH Try.prog csT noX (ictrs []) (tcL W m b t) noL 8 [W.sv, u32L m b, .int .u8 t] (.bool true)
end Go.Proofs.Ytifjghgejnkdoaa

set_option maxRecDepth 100000
namespace Go.Proofs.Ytifjghgejnkdoaa
open Go Go.Lg
theorem spG_vc (a : Int) (b : Int) : spG a b =
 ((0 : Nat) < (1 : Nat) ∧ a = a ∧ b = b ∧ True) := by kernel_rfl
theorem tcG_vc (W : Wl) (m : Nat) (b : Nat → Int) (t : Int) : tcG W m b t =
 (((36 : Int) < (↑W.1 : Int) → rE true ∧ True) ∧ (¬(36 : Int) < (↑W.1 : Int) → ((↑m : Int) = (0 : Int) → rE true ∧ True) ∧ (¬(↑m : Int) = (0 : Int) → (∀ (i : Nat), i < W.1 → True ∧ True ∧ True ∧ True ∧ True) ∧ (SV.lst (4 : Nat) W.n fun i => (W.f i).sv) = (wlOf W.n fun i => (W.f i).sv).sv ∧ W.1 ≤ (1000 : Nat) ∧ (¬erC (wlOf W.n fun i => (W.f i).sv) = (0 : Int) → (∃ (z : Nat), z ≤ W.1 ∧ W.1 = W.1 ∧ (∀ (i : Nat), i < W.1 → rE ((W.f i).sv.den) ∧ True ∧ True ∧ True ∧ True ∧ True) ∧ caN (wlOf W.n fun i => (W.f i).sv) = caN W ∧ (∀ (i : Nat), i < caN W → (ldL (wlOf W.n fun i => (W.f i).sv) i).sv.den = (ldL W i).sv.den ∧ True ∧ True ∧ True) ∧ rE (0 : Nat) ∧ rE (0 : Nat) ∧ ((↑W.1 : Int) ≤ (32 : Int) ↔ W.1 ≤ (32 : Nat) ∧ ∀ (i : Nat), i < z → okW (W.f i)) ∧ (0 : Int) = (↑z : Int) ∧ (caA (wlOf W.n fun i => (W.f i).sv)).1 = (caA W).1 ∧ (caA (wlOf W.n fun i => (W.f i).sv)).2 = (caA W).2 ∧ True) ∧ ∀ (z :
 Nat), z ≤ W.1 → ((↑z : Int) < (↑W.1 : Int) → ((W.1 ≤ (32 : Nat) ∧ ∀ (i : Nat), i < z → okW (W.f i)) → (0 : Int) ≤ (↑z : Int) ∧ (↑z : Int) < (↑W.1 : Int) ∧ rI ((↑z : Int) + (1 : Int)) ∧ ∃ (z_1 : Nat), z_1 ≤ W.1 ∧ W.1 - z_1 < W.1 - z ∧ W.1 = W.1 ∧ (∀ (i : Nat), i < W.1 → rE ((W.f i).sv.den) ∧ True ∧ True ∧ True ∧ True ∧ True) ∧ rE (caN W) ∧ (∀ (i : Nat), i < caN W → rE ((ldL W i).sv.den) ∧ True ∧ True ∧ True) ∧ rE (0 : Nat) ∧ rE (0 : Nat) ∧ (okW (Wg.mk (W.f (↑z : Int).toNat).elo (W.f (↑z : Int).toNat).ehi (W.f (↑z : Int).toNat).flo (W.f (↑z : Int).toNat).fhi) ↔ W.1 ≤ (32 : Nat) ∧ ∀ (i : Nat), i < z_1 → okW (W.f i)) ∧ (↑z : Int) + (1 : Int) = (↑z_1 : Int) ∧ rE ((caA W).1) ∧ rE ((caA W).2) ∧ True) ∧ (¬(W.1 ≤ (32 : Nat) ∧ ∀ (i : Nat), i < z → okW (W.f i)) → rI ((↑z : Int) + (1 : Int)) ∧ ∃ (z_1 : Nat), z_1 ≤ W.1 ∧ W.1 - z_1 < W.1 - z ∧ W.1 = W.1 ∧ (∀ (i : Nat), i < W.1 → rE ((W.f i).sv.den) ∧
 True ∧ True ∧ True ∧ True ∧ True) ∧ rE (caN W) ∧ (∀ (i : Nat), i < caN W → rE ((ldL W i).sv.den) ∧ True ∧ True ∧ True) ∧ rE (0 : Nat) ∧ rE (0 : Nat) ∧ (false = true ↔ W.1 ≤ (32 : Nat) ∧ ∀ (i : Nat), i < z_1 → okW (W.f i)) ∧ (↑z : Int) + (1 : Int) = (↑z_1 : Int) ∧ rE ((caA W).1) ∧ rE ((caA W).2) ∧ True)) ∧ (¬(↑z : Int) < (↑W.1 : Int) → ((↑(caN W) : Int) = (0 : Int) → (0 : Nat) < (1 : Nat) ∧ ((caA W).1 = (0 : Int) ∧ (caA W).2 = (0 : Int) → (¬(W.1 ≤ (32 : Nat) ∧ ∀ (i : Nat), i < z → okW (W.f i)) → rE true ∧ True) ∧ (¬¬(W.1 ≤ (32 : Nat) ∧ ∀ (i : Nat), i < z → okW (W.f i)) → false = true ∧ True)) ∧ (¬((caA W).1 = (0 : Int) ∧ (caA W).2 = (0 : Int)) → false = true ∧ True)) ∧ (¬(↑(caN W) : Int) = (0 : Int) → false = true ∧ True))) ∧ (¬¬erC (wlOf W.n fun i => (W.f i).sv) = (0 : Int) → (¬(↑(caN (wlOf W.n fun i => (W.f i).sv)) : Int) = (↑W.1 : Int) → false = true ∧ True) ∧ (¬¬(↑(caN (wlOf W.n fun
 i => (W.f i).sv)) : Int) = (↑W.1 : Int) → (∃ (z : Nat), z ≤ W.1 ∧ W.1 = W.1 ∧ (∀ (i : Nat), i < W.1 → rE ((W.f i).sv.den) ∧ True ∧ True ∧ True ∧ True ∧ True) ∧ m = m ∧ (∀ (i : Nat), i < m → rE ((SV.int IntKind.u32 (b i)).den) ∧ True) ∧ t = t ∧ caN (wlOf W.n fun i => (W.f i).sv) = caN W ∧ (∀ (i : Nat), i < caN W → (ldL (wlOf W.n fun i => (W.f i).sv) i).sv.den = (ldL W i).sv.den ∧ True ∧ True ∧ True) ∧ rE (0 : Nat) ∧ rE (0 : Nat) ∧ rE (0 : Nat) ∧ rE (0 : Nat) ∧ rE (0 : Nat) ∧ (0 : Nat) = z ∧ (0 : Int) = (↑z : Int) ∧ (caA (wlOf W.n fun i => (W.f i).sv)).1 = (caA W).1 ∧ (caA (wlOf W.n fun i => (W.f i).sv)).2 = (caA W).2 ∧ (0 : Int) = sumJ (fun i => (ldL W i).lo) z ∧ (0 : Int) = sumJ (fun i => (ldL W i).hi) z ∧ z = (0 : Nat) ∧ True) ∧ ∀ (z : Nat), z ≤ W.1 → ((↑z : Int) < (↑W.1 : Int) → (0 : Int) ≤ (↑z : Int) ∧ (↑z : Int) < (↑W.1 : Int) ∧ (0 : Nat) < (1 : Nat) ∧ (¬okW (Wg.mk (W.f (↑z :
 Int).toNat).elo (W.f (↑z : Int).toNat).ehi (W.f (↑z : Int).toNat).flo (W.f (↑z : Int).toNat).fhi) → false = true ∧ True) ∧ (¬¬okW (Wg.mk (W.f (↑z : Int).toNat).elo (W.f (↑z : Int).toNat).ehi (W.f (↑z : Int).toNat).flo (W.f (↑z : Int).toNat).fhi) → (0 : Nat) < (1 : Nat) ∧ ((↑m : Int) = (0 : Int) → False) ∧ (0 : Int) ≤ (↑z : Int).tmod (↑m : Int) ∧ (↑z : Int).tmod (↑m : Int) < (↑m : Int) ∧ rI (b ((↑z : Int).tmod (↑m : Int)).toNat) ∧ (0 : Nat) < (1 : Nat) ∧ (0 : Nat) < (1 : Nat) ∧ rI ((W.f (↑z : Int).toNat).4 - (W.f (↑z : Int).toNat).3) ∧ rI ((W.f (↑z : Int).toNat).4 - (W.f (↑z : Int).toNat).3 + (1 : Int)) ∧ ((W.f (↑z : Int).toNat).4 - (W.f (↑z : Int).toNat).3 + (1 : Int) = (0 : Int) → False) ∧ rI ((W.f (↑z : Int).toNat).3 + (b ((↑z : Int).tmod (↑m : Int)).toNat).tmod ((W.f (↑z : Int).toNat).4 - (W.f (↑z : Int).toNat).3 + (1 : Int))) ∧ (0 : Nat) < (1 : Nat) ∧ rI ((W.f (↑z : Int).toNat).3 +
 (b ((↑z : Int).tmod (↑m : Int)).toNat).tmod ((W.f (↑z : Int).toNat).4 - (W.f (↑z : Int).toNat).3 + (1 : Int)) - (W.f (↑z : Int).toNat).1) ∧ rI ((↑z : Int) + (1 : Int)) ∧ ((↑m : Int) = (0 : Int) → False) ∧ (0 : Int) ≤ ((↑z : Int) + (1 : Int)).tmod (↑m : Int) ∧ ((↑z : Int) + (1 : Int)).tmod (↑m : Int) < (↑m : Int) ∧ rI (b (((↑z : Int) + (1 : Int)).tmod (↑m : Int)).toNat) ∧ (0 : Nat) < (1 : Nat) ∧ (0 : Nat) < (1 : Nat) ∧ rI ((W.f (↑z : Int).toNat).2 - (W.f (↑z : Int).toNat).1) ∧ rI ((W.f (↑z : Int).toNat).2 - (W.f (↑z : Int).toNat).1 + (1 : Int)) ∧ ((W.f (↑z : Int).toNat).2 - (W.f (↑z : Int).toNat).1 + (1 : Int) = (0 : Int) → False) ∧ rI ((W.f (↑z : Int).toNat).3 + (b ((↑z : Int).tmod (↑m : Int)).toNat).tmod ((W.f (↑z : Int).toNat).4 - (W.f (↑z : Int).toNat).3 + (1 : Int)) - (W.f (↑z : Int).toNat).1 - (b (((↑z : Int) + (1 : Int)).tmod (↑m : Int)).toNat).tmod ((W.f (↑z : Int).toNat).2 -
 (W.f (↑z : Int).toNat).1 + (1 : Int))) ∧ ((0 : Int) ≤ (W.f (↑z : Int).toNat).3 + (b ((↑z : Int).tmod (↑m : Int)).toNat).tmod ((W.f (↑z : Int).toNat).4 - (W.f (↑z : Int).toNat).3 + (1 : Int)) - (W.f (↑z : Int).toNat).1 - (b (((↑z : Int) + (1 : Int)).tmod (↑m : Int)).toNat).tmod ((W.f (↑z : Int).toNat).2 - (W.f (↑z : Int).toNat).1 + (1 : Int)) → (0 : Int) ≤ (↑z : Int) ∧ (↑z : Int) < (↑(caN W) : Int) ∧ ((W.f (↑z : Int).toNat).3 + (b ((↑z : Int).tmod (↑m : Int)).toNat).tmod ((W.f (↑z : Int).toNat).4 - (W.f (↑z : Int).toNat).3 + (1 : Int)) - (W.f (↑z : Int).toNat).1 - (b (((↑z : Int) + (1 : Int)).tmod (↑m : Int)).toNat).tmod ((W.f (↑z : Int).toNat).2 - (W.f (↑z : Int).toNat).1 + (1 : Int)) < max (0 : Int) ((W.f (↑z : Int).toNat).3 - (W.f (↑z : Int).toNat).2) → false = true ∧ True) ∧ (¬(W.f (↑z : Int).toNat).3 + (b ((↑z : Int).tmod (↑m : Int)).toNat).tmod ((W.f (↑z : Int).toNat).4 - (W.f (↑z
 : Int).toNat).3 + (1 : Int)) - (W.f (↑z : Int).toNat).1 - (b (((↑z : Int) + (1 : Int)).tmod (↑m : Int)).toNat).tmod ((W.f (↑z : Int).toNat).2 - (W.f (↑z : Int).toNat).1 + (1 : Int)) < max (0 : Int) ((W.f (↑z : Int).toNat).3 - (W.f (↑z : Int).toNat).2) → (0 : Int) ≤ (↑z : Int) ∧ (↑z : Int) < (↑(caN W) : Int) ∧ ((W.f (↑z : Int).toNat).4 - (W.f (↑z : Int).toNat).1 < (W.f (↑z : Int).toNat).3 + (b ((↑z : Int).tmod (↑m : Int)).toNat).tmod ((W.f (↑z : Int).toNat).4 - (W.f (↑z : Int).toNat).3 + (1 : Int)) - (W.f (↑z : Int).toNat).1 - (b (((↑z : Int) + (1 : Int)).tmod (↑m : Int)).toNat).tmod ((W.f (↑z : Int).toNat).2 - (W.f (↑z : Int).toNat).1 + (1 : Int)) → false = true ∧ True) ∧ (¬(W.f (↑z : Int).toNat).4 - (W.f (↑z : Int).toNat).1 < (W.f (↑z : Int).toNat).3 + (b ((↑z : Int).tmod (↑m : Int)).toNat).tmod ((W.f (↑z : Int).toNat).4 - (W.f (↑z : Int).toNat).3 + (1 : Int)) - (W.f (↑z :
 Int).toNat).1 - (b (((↑z : Int) + (1 : Int)).tmod (↑m : Int)).toNat).tmod ((W.f (↑z : Int).toNat).2 - (W.f (↑z : Int).toNat).1 + (1 : Int)) → (0 : Int) ≤ (↑z : Int) ∧ (↑z : Int) < (↑(caN W) : Int) ∧ (max (0 : Int) ((W.f (↑z : Int).toNat).3 - (W.f (↑z : Int).toNat).2) < (0 : Int) → false = true ∧ True) ∧ (¬max (0 : Int) ((W.f (↑z : Int).toNat).3 - (W.f (↑z : Int).toNat).2) < (0 : Int) → (0 : Int) ≤ (↑z : Int) ∧ (↑z : Int) < (↑(caN W) : Int) ∧ (0 : Int) ≤ (↑z : Int) ∧ (↑z : Int) < (↑(caN W) : Int) ∧ ((W.f (↑z : Int).toNat).4 - (W.f (↑z : Int).toNat).1 < max (0 : Int) ((W.f (↑z : Int).toNat).3 - (W.f (↑z : Int).toNat).2) → false = true ∧ True) ∧ (¬(W.f (↑z : Int).toNat).4 - (W.f (↑z : Int).toNat).1 < max (0 : Int) ((W.f (↑z : Int).toNat).3 - (W.f (↑z : Int).toNat).2) → (0 : Int) ≤ (↑z : Int) ∧ (↑z : Int) < (↑(caN W) : Int) ∧ (0 : Nat) < (1 : Nat) ∧ (0 : Nat) < (1 : Nat) ∧ rI ((W.f (↑z :
 Int).toNat).4 - (W.f (↑z : Int).toNat).1) ∧ (¬(W.f (↑z : Int).toNat).4 - (W.f (↑z : Int).toNat).1 = (W.f (↑z : Int).toNat).4 - (W.f (↑z : Int).toNat).1 → false = true ∧ True) ∧ (¬¬(W.f (↑z : Int).toNat).4 - (W.f (↑z : Int).toNat).1 = (W.f (↑z : Int).toNat).4 - (W.f (↑z : Int).toNat).1 → (0 : Int) ≤ (↑z : Int) ∧ (↑z : Int) < (↑(caN W) : Int) ∧ (¬max (0 : Int) ((W.f (↑z : Int).toNat).3 - (W.f (↑z : Int).toNat).2) = (0 : Int) → (0 : Int) ≤ (↑z : Int) ∧ (↑z : Int) < (↑(caN W) : Int) ∧ (0 : Nat) < (1 : Nat) ∧ (0 : Nat) < (1 : Nat) ∧ rI ((W.f (↑z : Int).toNat).3 - (W.f (↑z : Int).toNat).2) ∧ (¬max (0 : Int) ((W.f (↑z : Int).toNat).3 - (W.f (↑z : Int).toNat).2) = (W.f (↑z : Int).toNat).3 - (W.f (↑z : Int).toNat).2 → false = true ∧ True) ∧ (¬¬max (0 : Int) ((W.f (↑z : Int).toNat).3 - (W.f (↑z : Int).toNat).2) = (W.f (↑z : Int).toNat).3 - (W.f (↑z : Int).toNat).2 → (0 : Int) ≤ (↑z : Int) ∧ (↑z :
 Int) < (↑(caN W) : Int) ∧ (max (0 : Int) ((W.f (↑z : Int).toNat).3 - (W.f (↑z : Int).toNat).2) = (0 : Int) → (0 : Nat) < (1 : Nat) ∧ (0 : Nat) < (1 : Nat) ∧ ((W.f (↑z : Int).toNat).2 < (W.f (↑z : Int).toNat).3 → false = true ∧ True) ∧ (¬(W.f (↑z : Int).toNat).2 < (W.f (↑z : Int).toNat).3 → (0 : Nat) < (1 : Nat) ∧ (0 : Int) ≤ (↑z : Int) ∧ (↑z : Int) < (↑(caN W) : Int) ∧ rI (sumJ (fun i => (ldL W i).lo) z + max (0 : Int) ((W.f (↑z : Int).toNat).3 - (W.f (↑z : Int).toNat).2)) ∧ (0 : Nat) < (1 : Nat) ∧ (0 : Int) ≤ (↑z : Int) ∧ (↑z : Int) < (↑(caN W) : Int) ∧ rI (sumJ (fun i => (ldL W i).hi) z + ((W.f (↑z : Int).toNat).4 - (W.f (↑z : Int).toNat).1)) ∧ rI (t) ∧ rI ((↑z : Int) + t) ∧ ((↑W.1 : Int) = (0 : Int) → False) ∧ (0 : Int) ≤ ((↑z : Int) + t).tmod (↑W.1 : Int) ∧ ((↑z : Int) + t).tmod (↑W.1 : Int) < (↑W.1 : Int) ∧ True ∧ (∀ (i : Nat), i < (1 : Nat) → rE true) ∧ rE (0 : Nat) ∧ z = z ∧ (∀
 (i : Nat), rE true) ∧ (z + (1 : Nat)) * (32 : Nat) ≤ (140737488355328 : Nat) ∧ z + (1 : Nat) ≤ (4611686018427387904 : Nat) ∧ rI ((↑z : Int) + (1 : Int)) ∧ ∃ (z_1 : Nat), z_1 ≤ W.1 ∧ W.1 - z_1 < W.1 - z ∧ W.1 = W.1 ∧ (∀ (i : Nat), i < W.1 → rE ((W.f i).sv.den) ∧ True ∧ True ∧ True ∧ True ∧ True) ∧ m = m ∧ (∀ (i : Nat), i < m → rE ((SV.int IntKind.u32 (b i)).den) ∧ True) ∧ t = t ∧ rE (caN W) ∧ (∀ (i : Nat), i < caN W → rE ((ldL W i).sv.den) ∧ True ∧ True ∧ True) ∧ rE (0 : Nat) ∧ rE (0 : Nat) ∧ rE (0 : Nat) ∧ rE (0 : Nat) ∧ rE (0 : Nat) ∧ z + (1 : Nat) = z_1 ∧ (↑z : Int) + (1 : Int) = (↑z_1 : Int) ∧ rE ((caA W).1) ∧ rE ((caA W).2) ∧ sumJ (fun i => (ldL W i).lo) z + max (0 : Int) ((W.f (↑z : Int).toNat).3 - (W.f (↑z : Int).toNat).2) = sumJ (fun i => (ldL W i).lo) z_1 ∧ sumJ (fun i => (ldL W i).hi) z + ((W.f (↑z : Int).toNat).4 - (W.f (↑z : Int).toNat).1) = sumJ (fun i => (ldL W i).hi) z_1 ∧ z_1 = z
 + (1 : Nat) ∧ (∀ (i : Nat), i < z_1 → rE (4 : Nat) ∧ (if i < z then ((tuW W t).f i).1 else (W.f (((↑z : Int) + t).tmod (↑W.n : Int)).toNat).1) = ((tuW W t).f i).1 ∧ (if i < z then ((tuW W t).f i).2 else (W.f (((↑z : Int) + t).tmod (↑W.n : Int)).toNat).2) = ((tuW W t).f i).2 ∧ (if i < z then ((tuW W t).f i).3 else (W.f (((↑z : Int) + t).tmod (↑W.n : Int)).toNat).3) = ((tuW W t).f i).3 ∧ (if i < z then ((tuW W t).f i).4 else (W.f (((↑z : Int) + t).tmod (↑W.n : Int)).toNat).4) = ((tuW W t).f i).4 ∧ True) ∧ True)) ∧ (¬max (0 : Int) ((W.f (↑z : Int).toNat).3 - (W.f (↑z : Int).toNat).2) = (0 : Int) → (0 : Nat) < (1 : Nat) ∧ (0 : Int) ≤ (↑z : Int) ∧ (↑z : Int) < (↑(caN W) : Int) ∧ rI (sumJ (fun i => (ldL W i).lo) z + max (0 : Int) ((W.f (↑z : Int).toNat).3 - (W.f (↑z : Int).toNat).2)) ∧ (0 : Nat) < (1 : Nat) ∧ (0 : Int) ≤ (↑z : Int) ∧ (↑z : Int) < (↑(caN W) : Int) ∧ rI (sumJ (fun i => (ldL W
 i).hi) z + ((W.f (↑z : Int).toNat).4 - (W.f (↑z : Int).toNat).1)) ∧ rI (t) ∧ rI ((↑z : Int) + t) ∧ ((↑W.1 : Int) = (0 : Int) → False) ∧ (0 : Int) ≤ ((↑z : Int) + t).tmod (↑W.1 : Int) ∧ ((↑z : Int) + t).tmod (↑W.1 : Int) < (↑W.1 : Int) ∧ True ∧ (∀ (i : Nat), i < (1 : Nat) → rE true) ∧ rE (0 : Nat) ∧ z = z ∧ (∀ (i : Nat), rE true) ∧ (z + (1 : Nat)) * (32 : Nat) ≤ (140737488355328 : Nat) ∧ z + (1 : Nat) ≤ (4611686018427387904 : Nat) ∧ rI ((↑z : Int) + (1 : Int)) ∧ ∃ (z_1 : Nat), z_1 ≤ W.1 ∧ W.1 - z_1 < W.1 - z ∧ W.1 = W.1 ∧ (∀ (i : Nat), i < W.1 → rE ((W.f i).sv.den) ∧ True ∧ True ∧ True ∧ True ∧ True) ∧ m = m ∧ (∀ (i : Nat), i < m → rE ((SV.int IntKind.u32 (b i)).den) ∧ True) ∧ t = t ∧ rE (caN W) ∧ (∀ (i : Nat), i < caN W → rE ((ldL W i).sv.den) ∧ True ∧ True ∧ True) ∧ rE (0 : Nat) ∧ rE (0 : Nat) ∧ rE (0 : Nat) ∧ rE (0 : Nat) ∧ rE (0 : Nat) ∧ z + (1 : Nat) = z_1 ∧ (↑z : Int) + (1 : Int) = (↑z_1 :
 Int) ∧ rE ((caA W).1) ∧ rE ((caA W).2) ∧ sumJ (fun i => (ldL W i).lo) z + max (0 : Int) ((W.f (↑z : Int).toNat).3 - (W.f (↑z : Int).toNat).2) = sumJ (fun i => (ldL W i).lo) z_1 ∧ sumJ (fun i => (ldL W i).hi) z + ((W.f (↑z : Int).toNat).4 - (W.f (↑z : Int).toNat).1) = sumJ (fun i => (ldL W i).hi) z_1 ∧ z_1 = z + (1 : Nat) ∧ (∀ (i : Nat), i < z_1 → rE (4 : Nat) ∧ (if i < z then ((tuW W t).f i).1 else (W.f (((↑z : Int) + t).tmod (↑W.n : Int)).toNat).1) = ((tuW W t).f i).1 ∧ (if i < z then ((tuW W t).f i).2 else (W.f (((↑z : Int) + t).tmod (↑W.n : Int)).toNat).2) = ((tuW W t).f i).2 ∧ (if i < z then ((tuW W t).f i).3 else (W.f (((↑z : Int) + t).tmod (↑W.n : Int)).toNat).3) = ((tuW W t).f i).3 ∧ (if i < z then ((tuW W t).f i).4 else (W.f (((↑z : Int) + t).tmod (↑W.n : Int)).toNat).4) = ((tuW W t).f i).4 ∧ True) ∧ True))) ∧ (¬¬max (0 : Int) ((W.f (↑z : Int).toNat).3 - (W.f (↑z :
 Int).toNat).2) = (0 : Int) → (0 : Int) ≤ (↑z : Int) ∧ (↑z : Int) < (↑(caN W) : Int) ∧ (max (0 : Int) ((W.f (↑z : Int).toNat).3 - (W.f (↑z : Int).toNat).2) = (0 : Int) → (0 : Nat) < (1 : Nat) ∧ (0 : Nat) < (1 : Nat) ∧ ((W.f (↑z : Int).toNat).2 < (W.f (↑z : Int).toNat).3 → false = true ∧ True) ∧ (¬(W.f (↑z : Int).toNat).2 < (W.f (↑z : Int).toNat).3 → (0 : Nat) < (1 : Nat) ∧ (0 : Int) ≤ (↑z : Int) ∧ (↑z : Int) < (↑(caN W) : Int) ∧ rI (sumJ (fun i => (ldL W i).lo) z + max (0 : Int) ((W.f (↑z : Int).toNat).3 - (W.f (↑z : Int).toNat).2)) ∧ (0 : Nat) < (1 : Nat) ∧ (0 : Int) ≤ (↑z : Int) ∧ (↑z : Int) < (↑(caN W) : Int) ∧ rI (sumJ (fun i => (ldL W i).hi) z + ((W.f (↑z : Int).toNat).4 - (W.f (↑z : Int).toNat).1)) ∧ rI (t) ∧ rI ((↑z : Int) + t) ∧ ((↑W.1 : Int) = (0 : Int) → False) ∧ (0 : Int) ≤ ((↑z : Int) + t).tmod (↑W.1 : Int) ∧ ((↑z : Int) + t).tmod (↑W.1 : Int) < (↑W.1 : Int) ∧ True ∧ (∀ (i :
 Nat), i < (1 : Nat) → rE true) ∧ rE (0 : Nat) ∧ z = z ∧ (∀ (i : Nat), rE true) ∧ (z + (1 : Nat)) * (32 : Nat) ≤ (140737488355328 : Nat) ∧ z + (1 : Nat) ≤ (4611686018427387904 : Nat) ∧ rI ((↑z : Int) + (1 : Int)) ∧ ∃ (z_1 : Nat), z_1 ≤ W.1 ∧ W.1 - z_1 < W.1 - z ∧ W.1 = W.1 ∧ (∀ (i : Nat), i < W.1 → rE ((W.f i).sv.den) ∧ True ∧ True ∧ True ∧ True ∧ True) ∧ m = m ∧ (∀ (i : Nat), i < m → rE ((SV.int IntKind.u32 (b i)).den) ∧ True) ∧ t = t ∧ rE (caN W) ∧ (∀ (i : Nat), i < caN W → rE ((ldL W i).sv.den) ∧ True ∧ True ∧ True) ∧ rE (0 : Nat) ∧ rE (0 : Nat) ∧ rE (0 : Nat) ∧ rE (0 : Nat) ∧ rE (0 : Nat) ∧ z + (1 : Nat) = z_1 ∧ (↑z : Int) + (1 : Int) = (↑z_1 : Int) ∧ rE ((caA W).1) ∧ rE ((caA W).2) ∧ sumJ (fun i => (ldL W i).lo) z + max (0 : Int) ((W.f (↑z : Int).toNat).3 - (W.f (↑z : Int).toNat).2) = sumJ (fun i => (ldL W i).lo) z_1 ∧ sumJ (fun i => (ldL W i).hi) z + ((W.f (↑z : Int).toNat).4 - (W.f (↑z :
 Int).toNat).1) = sumJ (fun i => (ldL W i).hi) z_1 ∧ z_1 = z + (1 : Nat) ∧ (∀ (i : Nat), i < z_1 → rE (4 : Nat) ∧ (if i < z then ((tuW W t).f i).1 else (W.f (((↑z : Int) + t).tmod (↑W.n : Int)).toNat).1) = ((tuW W t).f i).1 ∧ (if i < z then ((tuW W t).f i).2 else (W.f (((↑z : Int) + t).tmod (↑W.n : Int)).toNat).2) = ((tuW W t).f i).2 ∧ (if i < z then ((tuW W t).f i).3 else (W.f (((↑z : Int) + t).tmod (↑W.n : Int)).toNat).3) = ((tuW W t).f i).3 ∧ (if i < z then ((tuW W t).f i).4 else (W.f (((↑z : Int) + t).tmod (↑W.n : Int)).toNat).4) = ((tuW W t).f i).4 ∧ True) ∧ True)) ∧ (¬max (0 : Int) ((W.f (↑z : Int).toNat).3 - (W.f (↑z : Int).toNat).2) = (0 : Int) → (0 : Nat) < (1 : Nat) ∧ (0 : Int) ≤ (↑z : Int) ∧ (↑z : Int) < (↑(caN W) : Int) ∧ rI (sumJ (fun i => (ldL W i).lo) z + max (0 : Int) ((W.f (↑z : Int).toNat).3 - (W.f (↑z : Int).toNat).2)) ∧ (0 : Nat) < (1 : Nat) ∧ (0 : Int) ≤ (↑z : Int) ∧
 (↑z : Int) < (↑(caN W) : Int) ∧ rI (sumJ (fun i => (ldL W i).hi) z + ((W.f (↑z : Int).toNat).4 - (W.f (↑z : Int).toNat).1)) ∧ rI (t) ∧ rI ((↑z : Int) + t) ∧ ((↑W.1 : Int) = (0 : Int) → False) ∧ (0 : Int) ≤ ((↑z : Int) + t).tmod (↑W.1 : Int) ∧ ((↑z : Int) + t).tmod (↑W.1 : Int) < (↑W.1 : Int) ∧ True ∧ (∀ (i : Nat), i < (1 : Nat) → rE true) ∧ rE (0 : Nat) ∧ z = z ∧ (∀ (i : Nat), rE true) ∧ (z + (1 : Nat)) * (32 : Nat) ≤ (140737488355328 : Nat) ∧ z + (1 : Nat) ≤ (4611686018427387904 : Nat) ∧ rI ((↑z : Int) + (1 : Int)) ∧ ∃ (z_1 : Nat), z_1 ≤ W.1 ∧ W.1 - z_1 < W.1 - z ∧ W.1 = W.1 ∧ (∀ (i : Nat), i < W.1 → rE ((W.f i).sv.den) ∧ True ∧ True ∧ True ∧ True ∧ True) ∧ m = m ∧ (∀ (i : Nat), i < m → rE ((SV.int IntKind.u32 (b i)).den) ∧ True) ∧ t = t ∧ rE (caN W) ∧ (∀ (i : Nat), i < caN W → rE ((ldL W i).sv.den) ∧ True ∧ True ∧ True) ∧ rE (0 : Nat) ∧ rE (0 : Nat) ∧ rE (0 : Nat) ∧ rE (0 : Nat) ∧ rE (0 :
 Nat) ∧ z + (1 : Nat) = z_1 ∧ (↑z : Int) + (1 : Int) = (↑z_1 : Int) ∧ rE ((caA W).1) ∧ rE ((caA W).2) ∧ sumJ (fun i => (ldL W i).lo) z + max (0 : Int) ((W.f (↑z : Int).toNat).3 - (W.f (↑z : Int).toNat).2) = sumJ (fun i => (ldL W i).lo) z_1 ∧ sumJ (fun i => (ldL W i).hi) z + ((W.f (↑z : Int).toNat).4 - (W.f (↑z : Int).toNat).1) = sumJ (fun i => (ldL W i).hi) z_1 ∧ z_1 = z + (1 : Nat) ∧ (∀ (i : Nat), i < z_1 → rE (4 : Nat) ∧ (if i < z then ((tuW W t).f i).1 else (W.f (((↑z : Int) + t).tmod (↑W.n : Int)).toNat).1) = ((tuW W t).f i).1 ∧ (if i < z then ((tuW W t).f i).2 else (W.f (((↑z : Int) + t).tmod (↑W.n : Int)).toNat).2) = ((tuW W t).f i).2 ∧ (if i < z then ((tuW W t).f i).3 else (W.f (((↑z : Int) + t).tmod (↑W.n : Int)).toNat).3) = ((tuW W t).f i).3 ∧ (if i < z then ((tuW W t).f i).4 else (W.f (((↑z : Int) + t).tmod (↑W.n : Int)).toNat).4) = ((tuW W t).f i).4 ∧ True) ∧ True)))))))) ∧
 (¬(0 : Int) ≤ (W.f (↑z : Int).toNat).3 + (b ((↑z : Int).tmod (↑m : Int)).toNat).tmod ((W.f (↑z : Int).toNat).4 - (W.f (↑z : Int).toNat).3 + (1 : Int)) - (W.f (↑z : Int).toNat).1 - (b (((↑z : Int) + (1 : Int)).tmod (↑m : Int)).toNat).tmod ((W.f (↑z : Int).toNat).2 - (W.f (↑z : Int).toNat).1 + (1 : Int)) → (0 : Int) ≤ (↑z : Int) ∧ (↑z : Int) < (↑(caN W) : Int) ∧ (max (0 : Int) ((W.f (↑z : Int).toNat).3 - (W.f (↑z : Int).toNat).2) < (0 : Int) → false = true ∧ True) ∧ (¬max (0 : Int) ((W.f (↑z : Int).toNat).3 - (W.f (↑z : Int).toNat).2) < (0 : Int) → (0 : Int) ≤ (↑z : Int) ∧ (↑z : Int) < (↑(caN W) : Int) ∧ (0 : Int) ≤ (↑z : Int) ∧ (↑z : Int) < (↑(caN W) : Int) ∧ ((W.f (↑z : Int).toNat).4 - (W.f (↑z : Int).toNat).1 < max (0 : Int) ((W.f (↑z : Int).toNat).3 - (W.f (↑z : Int).toNat).2) → false = true ∧ True) ∧ (¬(W.f (↑z : Int).toNat).4 - (W.f (↑z : Int).toNat).1 < max (0 : Int) ((W.f (↑z :
 Int).toNat).3 - (W.f (↑z : Int).toNat).2) → (0 : Int) ≤ (↑z : Int) ∧ (↑z : Int) < (↑(caN W) : Int) ∧ (0 : Nat) < (1 : Nat) ∧ (0 : Nat) < (1 : Nat) ∧ rI ((W.f (↑z : Int).toNat).4 - (W.f (↑z : Int).toNat).1) ∧ (¬(W.f (↑z : Int).toNat).4 - (W.f (↑z : Int).toNat).1 = (W.f (↑z : Int).toNat).4 - (W.f (↑z : Int).toNat).1 → false = true ∧ True) ∧ (¬¬(W.f (↑z : Int).toNat).4 - (W.f (↑z : Int).toNat).1 = (W.f (↑z : Int).toNat).4 - (W.f (↑z : Int).toNat).1 → (0 : Int) ≤ (↑z : Int) ∧ (↑z : Int) < (↑(caN W) : Int) ∧ (¬max (0 : Int) ((W.f (↑z : Int).toNat).3 - (W.f (↑z : Int).toNat).2) = (0 : Int) → (0 : Int) ≤ (↑z : Int) ∧ (↑z : Int) < (↑(caN W) : Int) ∧ (0 : Nat) < (1 : Nat) ∧ (0 : Nat) < (1 : Nat) ∧ rI ((W.f (↑z : Int).toNat).3 - (W.f (↑z : Int).toNat).2) ∧ (¬max (0 : Int) ((W.f (↑z : Int).toNat).3 - (W.f (↑z : Int).toNat).2) = (W.f (↑z : Int).toNat).3 - (W.f (↑z : Int).toNat).2 → false = true ∧
 True) ∧ (¬¬max (0 : Int) ((W.f (↑z : Int).toNat).3 - (W.f (↑z : Int).toNat).2) = (W.f (↑z : Int).toNat).3 - (W.f (↑z : Int).toNat).2 → (0 : Int) ≤ (↑z : Int) ∧ (↑z : Int) < (↑(caN W) : Int) ∧ (max (0 : Int) ((W.f (↑z : Int).toNat).3 - (W.f (↑z : Int).toNat).2) = (0 : Int) → (0 : Nat) < (1 : Nat) ∧ (0 : Nat) < (1 : Nat) ∧ ((W.f (↑z : Int).toNat).2 < (W.f (↑z : Int).toNat).3 → false = true ∧ True) ∧ (¬(W.f (↑z : Int).toNat).2 < (W.f (↑z : Int).toNat).3 → (0 : Nat) < (1 : Nat) ∧ (0 : Int) ≤ (↑z : Int) ∧ (↑z : Int) < (↑(caN W) : Int) ∧ rI (sumJ (fun i => (ldL W i).lo) z + max (0 : Int) ((W.f (↑z : Int).toNat).3 - (W.f (↑z : Int).toNat).2)) ∧ (0 : Nat) < (1 : Nat) ∧ (0 : Int) ≤ (↑z : Int) ∧ (↑z : Int) < (↑(caN W) : Int) ∧ rI (sumJ (fun i => (ldL W i).hi) z + ((W.f (↑z : Int).toNat).4 - (W.f (↑z : Int).toNat).1)) ∧ rI (t) ∧ rI ((↑z : Int) + t) ∧ ((↑W.1 : Int) = (0 : Int) → False) ∧ (0 : Int)
 ≤ ((↑z : Int) + t).tmod (↑W.1 : Int) ∧ ((↑z : Int) + t).tmod (↑W.1 : Int) < (↑W.1 : Int) ∧ True ∧ (∀ (i : Nat), i < (1 : Nat) → rE true) ∧ rE (0 : Nat) ∧ z = z ∧ (∀ (i : Nat), rE true) ∧ (z + (1 : Nat)) * (32 : Nat) ≤ (140737488355328 : Nat) ∧ z + (1 : Nat) ≤ (4611686018427387904 : Nat) ∧ rI ((↑z : Int) + (1 : Int)) ∧ ∃ (z_1 : Nat), z_1 ≤ W.1 ∧ W.1 - z_1 < W.1 - z ∧ W.1 = W.1 ∧ (∀ (i : Nat), i < W.1 → rE ((W.f i).sv.den) ∧ True ∧ True ∧ True ∧ True ∧ True) ∧ m = m ∧ (∀ (i : Nat), i < m → rE ((SV.int IntKind.u32 (b i)).den) ∧ True) ∧ t = t ∧ rE (caN W) ∧ (∀ (i : Nat), i < caN W → rE ((ldL W i).sv.den) ∧ True ∧ True ∧ True) ∧ rE (0 : Nat) ∧ rE (0 : Nat) ∧ rE (0 : Nat) ∧ rE (0 : Nat) ∧ rE (0 : Nat) ∧ z + (1 : Nat) = z_1 ∧ (↑z : Int) + (1 : Int) = (↑z_1 : Int) ∧ rE ((caA W).1) ∧ rE ((caA W).2) ∧ sumJ (fun i => (ldL W i).lo) z + max (0 : Int) ((W.f (↑z : Int).toNat).3 - (W.f (↑z : Int).toNat).2) =
 sumJ (fun i => (ldL W i).lo) z_1 ∧ sumJ (fun i => (ldL W i).hi) z + ((W.f (↑z : Int).toNat).4 - (W.f (↑z : Int).toNat).1) = sumJ (fun i => (ldL W i).hi) z_1 ∧ z_1 = z + (1 : Nat) ∧ (∀ (i : Nat), i < z_1 → rE (4 : Nat) ∧ (if i < z then ((tuW W t).f i).1 else (W.f (((↑z : Int) + t).tmod (↑W.n : Int)).toNat).1) = ((tuW W t).f i).1 ∧ (if i < z then ((tuW W t).f i).2 else (W.f (((↑z : Int) + t).tmod (↑W.n : Int)).toNat).2) = ((tuW W t).f i).2 ∧ (if i < z then ((tuW W t).f i).3 else (W.f (((↑z : Int) + t).tmod (↑W.n : Int)).toNat).3) = ((tuW W t).f i).3 ∧ (if i < z then ((tuW W t).f i).4 else (W.f (((↑z : Int) + t).tmod (↑W.n : Int)).toNat).4) = ((tuW W t).f i).4 ∧ True) ∧ True)) ∧ (¬max (0 : Int) ((W.f (↑z : Int).toNat).3 - (W.f (↑z : Int).toNat).2) = (0 : Int) → (0 : Nat) < (1 : Nat) ∧ (0 : Int) ≤ (↑z : Int) ∧ (↑z : Int) < (↑(caN W) : Int) ∧ rI (sumJ (fun i => (ldL W i).lo) z + max (0 :
 Int) ((W.f (↑z : Int).toNat).3 - (W.f (↑z : Int).toNat).2)) ∧ (0 : Nat) < (1 : Nat) ∧ (0 : Int) ≤ (↑z : Int) ∧ (↑z : Int) < (↑(caN W) : Int) ∧ rI (sumJ (fun i => (ldL W i).hi) z + ((W.f (↑z : Int).toNat).4 - (W.f (↑z : Int).toNat).1)) ∧ rI (t) ∧ rI ((↑z : Int) + t) ∧ ((↑W.1 : Int) = (0 : Int) → False) ∧ (0 : Int) ≤ ((↑z : Int) + t).tmod (↑W.1 : Int) ∧ ((↑z : Int) + t).tmod (↑W.1 : Int) < (↑W.1 : Int) ∧ True ∧ (∀ (i : Nat), i < (1 : Nat) → rE true) ∧ rE (0 : Nat) ∧ z = z ∧ (∀ (i : Nat), rE true) ∧ (z + (1 : Nat)) * (32 : Nat) ≤ (140737488355328 : Nat) ∧ z + (1 : Nat) ≤ (4611686018427387904 : Nat) ∧ rI ((↑z : Int) + (1 : Int)) ∧ ∃ (z_1 : Nat), z_1 ≤ W.1 ∧ W.1 - z_1 < W.1 - z ∧ W.1 = W.1 ∧ (∀ (i : Nat), i < W.1 → rE ((W.f i).sv.den) ∧ True ∧ True ∧ True ∧ True ∧ True) ∧ m = m ∧ (∀ (i : Nat), i < m → rE ((SV.int IntKind.u32 (b i)).den) ∧ True) ∧ t = t ∧ rE (caN W) ∧ (∀ (i : Nat), i < caN W → rE
 ((ldL W i).sv.den) ∧ True ∧ True ∧ True) ∧ rE (0 : Nat) ∧ rE (0 : Nat) ∧ rE (0 : Nat) ∧ rE (0 : Nat) ∧ rE (0 : Nat) ∧ z + (1 : Nat) = z_1 ∧ (↑z : Int) + (1 : Int) = (↑z_1 : Int) ∧ rE ((caA W).1) ∧ rE ((caA W).2) ∧ sumJ (fun i => (ldL W i).lo) z + max (0 : Int) ((W.f (↑z : Int).toNat).3 - (W.f (↑z : Int).toNat).2) = sumJ (fun i => (ldL W i).lo) z_1 ∧ sumJ (fun i => (ldL W i).hi) z + ((W.f (↑z : Int).toNat).4 - (W.f (↑z : Int).toNat).1) = sumJ (fun i => (ldL W i).hi) z_1 ∧ z_1 = z + (1 : Nat) ∧ (∀ (i : Nat), i < z_1 → rE (4 : Nat) ∧ (if i < z then ((tuW W t).f i).1 else (W.f (((↑z : Int) + t).tmod (↑W.n : Int)).toNat).1) = ((tuW W t).f i).1 ∧ (if i < z then ((tuW W t).f i).2 else (W.f (((↑z : Int) + t).tmod (↑W.n : Int)).toNat).2) = ((tuW W t).f i).2 ∧ (if i < z then ((tuW W t).f i).3 else (W.f (((↑z : Int) + t).tmod (↑W.n : Int)).toNat).3) = ((tuW W t).f i).3 ∧ (if i < z then ((tuW W
 t).f i).4 else (W.f (((↑z : Int) + t).tmod (↑W.n : Int)).toNat).4) = ((tuW W t).f i).4 ∧ True) ∧ True))) ∧ (¬¬max (0 : Int) ((W.f (↑z : Int).toNat).3 - (W.f (↑z : Int).toNat).2) = (0 : Int) → (0 : Int) ≤ (↑z : Int) ∧ (↑z : Int) < (↑(caN W) : Int) ∧ (max (0 : Int) ((W.f (↑z : Int).toNat).3 - (W.f (↑z : Int).toNat).2) = (0 : Int) → (0 : Nat) < (1 : Nat) ∧ (0 : Nat) < (1 : Nat) ∧ ((W.f (↑z : Int).toNat).2 < (W.f (↑z : Int).toNat).3 → false = true ∧ True) ∧ (¬(W.f (↑z : Int).toNat).2 < (W.f (↑z : Int).toNat).3 → (0 : Nat) < (1 : Nat) ∧ (0 : Int) ≤ (↑z : Int) ∧ (↑z : Int) < (↑(caN W) : Int) ∧ rI (sumJ (fun i => (ldL W i).lo) z + max (0 : Int) ((W.f (↑z : Int).toNat).3 - (W.f (↑z : Int).toNat).2)) ∧ (0 : Nat) < (1 : Nat) ∧ (0 : Int) ≤ (↑z : Int) ∧ (↑z : Int) < (↑(caN W) : Int) ∧ rI (sumJ (fun i => (ldL W i).hi) z + ((W.f (↑z : Int).toNat).4 - (W.f (↑z : Int).toNat).1)) ∧ rI (t) ∧ rI ((↑z :
 Int) + t) ∧ ((↑W.1 : Int) = (0 : Int) → False) ∧ (0 : Int) ≤ ((↑z : Int) + t).tmod (↑W.1 : Int) ∧ ((↑z : Int) + t).tmod (↑W.1 : Int) < (↑W.1 : Int) ∧ True ∧ (∀ (i : Nat), i < (1 : Nat) → rE true) ∧ rE (0 : Nat) ∧ z = z ∧ (∀ (i : Nat), rE true) ∧ (z + (1 : Nat)) * (32 : Nat) ≤ (140737488355328 : Nat) ∧ z + (1 : Nat) ≤ (4611686018427387904 : Nat) ∧ rI ((↑z : Int) + (1 : Int)) ∧ ∃ (z_1 : Nat), z_1 ≤ W.1 ∧ W.1 - z_1 < W.1 - z ∧ W.1 = W.1 ∧ (∀ (i : Nat), i < W.1 → rE ((W.f i).sv.den) ∧ True ∧ True ∧ True ∧ True ∧ True) ∧ m = m ∧ (∀ (i : Nat), i < m → rE ((SV.int IntKind.u32 (b i)).den) ∧ True) ∧ t = t ∧ rE (caN W) ∧ (∀ (i : Nat), i < caN W → rE ((ldL W i).sv.den) ∧ True ∧ True ∧ True) ∧ rE (0 : Nat) ∧ rE (0 : Nat) ∧ rE (0 : Nat) ∧ rE (0 : Nat) ∧ rE (0 : Nat) ∧ z + (1 : Nat) = z_1 ∧ (↑z : Int) + (1 : Int) = (↑z_1 : Int) ∧ rE ((caA W).1) ∧ rE ((caA W).2) ∧ sumJ (fun i => (ldL W i).lo) z + max (0 :
 Int) ((W.f (↑z : Int).toNat).3 - (W.f (↑z : Int).toNat).2) = sumJ (fun i => (ldL W i).lo) z_1 ∧ sumJ (fun i => (ldL W i).hi) z + ((W.f (↑z : Int).toNat).4 - (W.f (↑z : Int).toNat).1) = sumJ (fun i => (ldL W i).hi) z_1 ∧ z_1 = z + (1 : Nat) ∧ (∀ (i : Nat), i < z_1 → rE (4 : Nat) ∧ (if i < z then ((tuW W t).f i).1 else (W.f (((↑z : Int) + t).tmod (↑W.n : Int)).toNat).1) = ((tuW W t).f i).1 ∧ (if i < z then ((tuW W t).f i).2 else (W.f (((↑z : Int) + t).tmod (↑W.n : Int)).toNat).2) = ((tuW W t).f i).2 ∧ (if i < z then ((tuW W t).f i).3 else (W.f (((↑z : Int) + t).tmod (↑W.n : Int)).toNat).3) = ((tuW W t).f i).3 ∧ (if i < z then ((tuW W t).f i).4 else (W.f (((↑z : Int) + t).tmod (↑W.n : Int)).toNat).4) = ((tuW W t).f i).4 ∧ True) ∧ True)) ∧ (¬max (0 : Int) ((W.f (↑z : Int).toNat).3 - (W.f (↑z : Int).toNat).2) = (0 : Int) → (0 : Nat) < (1 : Nat) ∧ (0 : Int) ≤ (↑z : Int) ∧ (↑z : Int) < (↑(caN
 W) : Int) ∧ rI (sumJ (fun i => (ldL W i).lo) z + max (0 : Int) ((W.f (↑z : Int).toNat).3 - (W.f (↑z : Int).toNat).2)) ∧ (0 : Nat) < (1 : Nat) ∧ (0 : Int) ≤ (↑z : Int) ∧ (↑z : Int) < (↑(caN W) : Int) ∧ rI (sumJ (fun i => (ldL W i).hi) z + ((W.f (↑z : Int).toNat).4 - (W.f (↑z : Int).toNat).1)) ∧ rI (t) ∧ rI ((↑z : Int) + t) ∧ ((↑W.1 : Int) = (0 : Int) → False) ∧ (0 : Int) ≤ ((↑z : Int) + t).tmod (↑W.1 : Int) ∧ ((↑z : Int) + t).tmod (↑W.1 : Int) < (↑W.1 : Int) ∧ True ∧ (∀ (i : Nat), i < (1 : Nat) → rE true) ∧ rE (0 : Nat) ∧ z = z ∧ (∀ (i : Nat), rE true) ∧ (z + (1 : Nat)) * (32 : Nat) ≤ (140737488355328 : Nat) ∧ z + (1 : Nat) ≤ (4611686018427387904 : Nat) ∧ rI ((↑z : Int) + (1 : Int)) ∧ ∃ (z_1 : Nat), z_1 ≤ W.1 ∧ W.1 - z_1 < W.1 - z ∧ W.1 = W.1 ∧ (∀ (i : Nat), i < W.1 → rE ((W.f i).sv.den) ∧ True ∧ True ∧ True ∧ True ∧ True) ∧ m = m ∧ (∀ (i : Nat), i < m → rE ((SV.int IntKind.u32 (b i)).den) ∧
 True) ∧ t = t ∧ rE (caN W) ∧ (∀ (i : Nat), i < caN W → rE ((ldL W i).sv.den) ∧ True ∧ True ∧ True) ∧ rE (0 : Nat) ∧ rE (0 : Nat) ∧ rE (0 : Nat) ∧ rE (0 : Nat) ∧ rE (0 : Nat) ∧ z + (1 : Nat) = z_1 ∧ (↑z : Int) + (1 : Int) = (↑z_1 : Int) ∧ rE ((caA W).1) ∧ rE ((caA W).2) ∧ sumJ (fun i => (ldL W i).lo) z + max (0 : Int) ((W.f (↑z : Int).toNat).3 - (W.f (↑z : Int).toNat).2) = sumJ (fun i => (ldL W i).lo) z_1 ∧ sumJ (fun i => (ldL W i).hi) z + ((W.f (↑z : Int).toNat).4 - (W.f (↑z : Int).toNat).1) = sumJ (fun i => (ldL W i).hi) z_1 ∧ z_1 = z + (1 : Nat) ∧ (∀ (i : Nat), i < z_1 → rE (4 : Nat) ∧ (if i < z then ((tuW W t).f i).1 else (W.f (((↑z : Int) + t).tmod (↑W.n : Int)).toNat).1) = ((tuW W t).f i).1 ∧ (if i < z then ((tuW W t).f i).2 else (W.f (((↑z : Int) + t).tmod (↑W.n : Int)).toNat).2) = ((tuW W t).f i).2 ∧ (if i < z then ((tuW W t).f i).3 else (W.f (((↑z : Int) + t).tmod (↑W.n :
 Int)).toNat).3) = ((tuW W t).f i).3 ∧ (if i < z then ((tuW W t).f i).4 else (W.f (((↑z : Int) + t).tmod (↑W.n : Int)).toNat).4) = ((tuW W t).f i).4 ∧ True) ∧ True)))))))) ∧ (¬(↑z : Int) < (↑W.1 : Int) → (0 : Nat) + z ≤ z ∧ (∀ (i : Nat), i < z → rE (4 : Nat) ∧ True ∧ True ∧ True ∧ True ∧ True) ∧ (SV.lst (4 : Nat) z fun i => ((tuW W t).f (i + (0 : Nat))).sv) = (wlOf z fun i => ((tuW W t).f (i + (0 : Nat))).sv).sv ∧ z ≤ (1000 : Nat) ∧ (0 : Nat) < (1 : Nat) ∧ (0 : Nat) < (1 : Nat) ∧ (sumJ (fun i => (ldL W i).lo) z = (caA W).1 ∧ sumJ (fun i => (ldL W i).hi) z = (caA W).2 → (0 : Nat) < (1 : Nat) ∧ (0 : Nat) < (1 : Nat) ∧ ((caA (wlOf z fun i => ((tuW W t).f (i + (0 : Nat))).sv)).1 = (caA W).1 ∧ (caA (wlOf z fun i => ((tuW W t).f (i + (0 : Nat))).sv)).2 = (caA W).2 → (erC (wlOf z fun i => ((tuW W t).f (i + (0 : Nat))).sv) = (0 : Int) → rE true ∧ True) ∧ (¬erC (wlOf z fun i => ((tuW W t).f (i +
 (0 : Nat))).sv) = (0 : Int) → false = true ∧ True)) ∧ (¬((caA (wlOf z fun i => ((tuW W t).f (i + (0 : Nat))).sv)).1 = (caA W).1 ∧ (caA (wlOf z fun i => ((tuW W t).f (i + (0 : Nat))).sv)).2 = (caA W).2) → false = true ∧ True)) ∧ (¬(sumJ (fun i => (ldL W i).lo) z = (caA W).1 ∧ sumJ (fun i => (ldL W i).hi) z = (caA W).2) → false = true ∧ True))))))) := by kernel_rfl
end Go.Proofs.Ytifjghgejnkdoaa

set_option maxRecDepth 100000
namespace Go.Proofs.Ytifjghgejnkdoaa
open Go Go.Lg
attribute [local irreducible] funS bodyH
theorem sumJ_congr {f g : Nat → Int} : ∀ {m : Nat}, (∀ i, i < m → f i = g i) → sumJ f m = sumJ g m
  | 0, _ => rfl
  | m + 1, h => by
    show sumJ f m + f m = sumJ g m + g m
    rw [sumJ_congr (m := m) fun i hi => h i (by omega), h m (by omega)]
theorem sumJ_shift (h : Nat → Int) : ∀ n, sumJ (fun i => h (i + 1)) n + h 0 = sumJ h n + h n
  | 0 => rfl
  | n + 1 => by
    have := sumJ_shift h n
    show sumJ (fun i => h (i + 1)) n + h (n + 1) + h 0 = sumJ h n + h n + h (n + 1)
    omega
theorem sumJ_rot (g : Nat → Int) (n : Nat) : ∀ t : Nat, sumJ (fun i => g ((i + t) % n)) n = sumJ g n
  | 0 => sumJ_congr fun i hi => by rw [Nat.add_zero, Nat.mod_eq_of_lt hi]
  | t + 1 => by
    have h2 := sumJ_rot g n t
    have e : (fun i => g ((i + (t + 1)) % n)) = fun i => (fun i => g ((i + t) % n)) (i + 1) := by
      funext i
      show g ((i + (t + 1)) % n) = g ((i + 1 + t) % n)
      rw [show i + (t + 1) = i + 1 + t by omega]
    rw [e]
    have e3 : g ((n + t) % n) = g ((0 + t) % n) := by
      rw [Nat.add_mod_left, Nat.zero_add]
    have h1 : sumJ (fun i => (fun i => g ((i + t) % n)) (i + 1)) n + g ((0 + t) % n) = sumJ (fun i => g ((i + t) % n)) n + g ((n + t) % n) := sumJ_shift (fun i => g ((i + t) % n)) n
    omega
theorem tm_nat {i n : Nat} {t : Int} (ht : 0 ≤ t) : (((i : Int) + t).tmod n).toNat = (i + t.toNat) % n := by
  obtain ⟨k, rfl⟩ := Int.eq_ofNat_of_zero_le ht
  rw [Int.tmod_eq_emod_of_nonneg (by omega)]
  simp only [Int.toNat_natCast]
  have : ((i : Int) + (k : Int)) % (n : Int) = (((i + k) % n : Nat) : Int) := by push_cast; rfl
  rw [this]; rfl
theorem tm_bd {a b : Int} (ha : 0 ≤ a) (hb : 0 < b) : 0 ≤ a.tmod b ∧ a.tmod b < b := by
  rw [Int.tmod_eq_emod_of_nonneg ha]
  exact ⟨Int.emod_nonneg _ (by omega), Int.emod_lt_of_pos _ hb⟩
theorem tu_ok {W : Wl} {t : Int} (ht : 0 ≤ t) (hw : okWl W) : okWl (tuW W t) := fun i hi => by
  have hi : i < W.n := hi
  show okW (W.f (((i : Int) + t).tmod W.n).toNat)
  refine hw _ ?_
  have := tm_bd (a := (i : Int) + t) (b := W.n) (by omega) (by omega)
  omega
theorem tu_sum {W : Wl} {t : Int} (ht : 0 ≤ t) : smJ (ldL (tuW W t)) W.n = smJ (ldL W) W.n := by
  have e : ∀ i, ldL (tuW W t) i = ldL W ((i + t.toNat) % W.n) := fun i => by
    show ldW (W.f (((i : Int) + t).tmod W.n).toNat) = ldW (W.f _)
    rw [tm_nat ht]
  unfold smJ
  rw [show (fun i => (ldL (tuW W t) i).lo) = fun i => (fun j => (ldL W j).lo) ((i + t.toNat) % W.n) from funext fun i => by rw [e],
    show (fun i => (ldL (tuW W t) i).hi) = fun i => (fun j => (ldL W j).hi) ((i + t.toNat) % W.n) from funext fun i => by rw [e], sumJ_rot (fun j => (ldL W j).lo), sumJ_rot (fun j => (ldL W j).hi)]
theorem sp_true (a b : Int) : spG a b := by rw [spG_vc]; simp
theorem sp_ok : spC.Ok Try.prog := by
  refine ⟨by kernel_rfl, fun x k hk => ?_⟩
  simp only [spC] at hk
  split at hk
  · rename_i a b
    exact ⟨_, plainD nilS_cs nilS_x nilS_ic (sp_true a b) (by simp [plainS, plainS.plainL]), hk⟩
  · exact hk.elim
theorem aw_ok : awC.Ok Try.prog := by
  refine ⟨by kernel_rfl, fun x k hk => ?_⟩
  simp only [awC] at hk
  split at hk
  · exact ⟨.bool true, Does.plain (res := .bool true) Aw_does trivial, hk⟩
  · exact hk.elim
theorem csT_sound : SoundS Try.prog csT := ctrs_sound (by
  intro x hx
  simp at hx
  rcases hx with rfl | rfl | rfl | rfl
  · exact nilC_ok ca_ok
  · exact rw_ok
  · exact sp_ok
  · exact aw_ok)
theorem erC_bad {W : Wl} (h : ¬ erC W = 0) : ¬ (W.n ≤ 32 ∧ ∀ i, i < W.n → okW (W.f i)) := fun ⟨h1, h2⟩ => h (by rw [erC, if_neg (by omega), if_pos (show okWl W from h2)])
theorem erC_good {W : Wl} (h : erC W = 0) : W.n ≤ 32 ∧ okWl W := by
  unfold erC at h
  split at h
  · omega
  · rename_i h1
    split at h
    · rename_i h2; exact ⟨by omega, h2⟩
    · omega
theorem tc_true {W : Wl} {m : Nat} {b : Nat → Int} {t : Int} (hb : ∀ i, i < m → 0 ≤ b i ∧ b i ≤ 4294967295) (ht : 0 ≤ t ∧ t ≤ 255) : tcG W m b t := by
  rw [tcG_vc]
  simp only [rI, rE, tt3, tt4, tt5, tt13, tt14, and_true, true_and, Nat.zero_lt_one, and_self, implies_true, Int.toNat_natCast, Nat.zero_add, Nat.add_zero, Nat.one_mul, Nat.mul_one, Classical.not_not, iff_self, Bool.false_eq_true, imp_false, and_imp, true_implies, forall_const, wl_fold, wsv_fold, wg_fold]
  intro h36 hm
  refine ⟨by omega, fun he => ?_, fun he => ?_⟩
  · obtain ⟨e1, e2⟩ := erC_no he
    rw [e1, e2]
    have hbad := erC_bad he
    refine ⟨⟨0, by omega, ⟨fun h => ⟨by omega, fun i hi => by omega⟩, fun h => by omega⟩, rfl⟩, fun z hz => ⟨fun hl => ⟨fun h1 h2 => ⟨by omega, hl, by omega, z + 1, by omega, by omega, ⟨fun h => ⟨h1, fun i hi => ?_⟩, fun h => h.2 z (by omega)⟩, by omega⟩, fun h => ⟨by omega, z + 1, by omega, by omega, ⟨fun h2 => h2.elim, fun h2 => h ⟨h2.1, fun i hi => h2.2 i (by omega)⟩⟩, by omega⟩⟩, fun hl => ⟨fun _ => ⟨fun _ _ h => hbad ⟨h.1, fun i hi => h.2 i (by omega)⟩, rfl, rfl⟩, rfl⟩⟩⟩
    by_cases e : i < z
    · exact h2 i e
    · have : i = z := by omega
      subst this; exact h
  · obtain ⟨h32, hw⟩ := erC_good he
    obtain ⟨-, e1, e2⟩ := erC_yes (by omega) hw
    rw [e1]
    refine ⟨rfl, fun _ => ⟨⟨0, by omega, rfl, rfl, rfl, rfl, rfl⟩, fun z hz => ⟨fun hl => ⟨by omega, hl, hw z (by omega), fun ho => ?_⟩, fun hl => ?_⟩⟩⟩
    · have hz : z < W.n := by omega
      have h1 := ho.e.a
      have h2 := ho.e.b
      have h3 := ho.e.c
      have h4 := ho.f.a
      have h5 := ho.f.b
      have h6 := ho.f.c
      have h7 := ho.c
      have m1 := tm_bd (a := (z : Int)) (b := m) (by omega) (by omega)
      have m2 := tm_bd (a := (z : Int) + 1) (b := m) (by omega) (by omega)
      have m3 := tm_bd (a := (z : Int) + t) (b := W.n) (by omega) (by omega)
      have b1 := hb ((z : Int).tmod m).toNat (by omega)
      have b2 := hb (((z : Int) + 1).tmod m).toNat (by omega)
      have c1 := tm_bd (a := b ((z : Int).tmod m).toNat) (b := (W.f z).fhi - (W.f z).flo + 1) (by omega) (by omega)
      have c2 := tm_bd (a := b (((z : Int) + 1).tmod m).toNat) (b := (W.f z).ehi - (W.f z).elo + 1) (by omega) (by omega)
      have s0 : ∀ i, i < W.n → bdT (ldL W i) := fun i hi => ld_bd (hw i hi)
      have s1 := sum_bd (g := fun i => (ldL W i).lo) (B := 100000000) (m := z) fun j hj => ⟨(s0 j (by omega)).1, (s0 j (by omega)).2.1⟩
      have s2 := sum_bd (g := fun i => (ldL W i).hi) (B := 100000000) (m := z) fun j hj => ⟨(s0 j (by omega)).2.2.1, (s0 j (by omega)).2.2.2⟩
      have step : ∃ z_1 : Nat, z_1 ≤ W.n ∧ W.n - z_1 < W.n - z ∧ z + 1 = z_1 ∧ (z : Int) + 1 = (z_1 : Int) ∧ sumJ (fun i => (ldL W i).lo) z + max 0 ((W.f z).flo - (W.f z).ehi) = sumJ (fun i => (ldL W i).lo) z_1 ∧ sumJ (fun i => (ldL W i).hi) z + ((W.f z).fhi - (W.f z).elo) = sumJ (fun i => (ldL W i).hi) z_1 ∧ z_1 = z + 1 ∧ ∀ (i : Nat), i < z_1 → (if i < z then ((tuW W t).f i).elo else (W.f (((z : Int) + t).tmod (W.n : Int)).toNat).elo) = ((tuW W t).f i).elo ∧ (if i < z then ((tuW W t).f i).ehi else (W.f (((z : Int) + t).tmod (W.n : Int)).toNat).ehi) = ((tuW W t).f i).ehi ∧ (if i < z then ((tuW W t).f i).flo else (W.f (((z : Int) + t).tmod (W.n : Int)).toNat).flo) = ((tuW W t).f i).flo ∧ (if i < z then ((tuW W t).f i).fhi else (W.f (((z : Int) + t).tmod (W.n : Int)).toNat).fhi) = ((tuW W t).f i).fhi :=
        ⟨z + 1, by omega, by omega, rfl, by omega, rfl, rfl, rfl, fun i hi => by
          by_cases e : i < z
          · simp only [if_pos e]; exact ⟨trivial, trivial, trivial, trivial⟩
          · have : i = z := by omega
            subst this; simp only [if_neg e]; exact ⟨rfl, rfl, rfl, rfl⟩⟩
      generalize (b ((z : Int).tmod m).toNat).tmod ((W.f z).fhi - (W.f z).flo + 1) = u1 at *
      generalize (b (((z : Int) + 1).tmod m).toNat).tmod ((W.f z).ehi - (W.f z).elo + 1) = u2 at *
      repeat' (first | exact step | apply And.intro | intro _)
      all_goals omega
    · have hz : z = W.n := by omega
      subst hz
      have et : (wlOf W.n fun i => ((tuW W t).f i).sv) = tuW W t := rfl
      rw [et]
      obtain ⟨e3, -, e4⟩ := erC_yes (W := tuW W t) (by show ¬ 32 < (W.n : Int); omega) (tu_ok ht.1 hw)
      have e5 : caA (tuW W t) = caA W := by rw [e4, e2]; exact tu_sum ht.1
      rw [e5, e3, e2]
      refine ⟨by omega, rfl, by omega, fun _ _ => ⟨fun _ _ => rfl, rfl, rfl⟩, rfl, rfl⟩
end Go.Proofs.Ytifjghgejnkdoaa
