import Derived.Test.YtfjfnpknlkonnaaKeKfKfVKgKh
set_option linter.unusedVariables false
set_option linter.unusedSimpArgs false
set_option maxRecDepth 100000
namespace Go.Proofs.Ytfjfnpknlkonnaa
open Go Go.Lg
def newG0 (v : Sq) : Prop := (∀ (i : Nat), i < v.cl.1 → rE ((SV.agg [SV.dec (v.cl.g i = true) inferInstance, i6 (v.cl.su i), i6 (v.cl.ca i)]).den) ∧ True ∧ True ∧ True ∧ True)
def newG1 (v : Sq) : Prop := (∀ (i : Nat), i < v.ho.1 → rE ((SV.agg [SV.dec (v.ho.g i = true) inferInstance, i6 (v.ho.su i), i6 (v.ho.ca i)]).den) ∧ True ∧ True ∧ True ∧ True)
theorem newG_vc (v : Sq) : newG v = ((0 : Nat) < (1 : Nat) ∧ (0 : Nat) < (1 : Nat) ∧ (0 : Nat) < (1 : Nat) ∧ (∃ (z : Nat), z ≤ v.cl.1 ∧ rE (0 : Nat) ∧ rE (0 : Nat) ∧ rE (0 : Nat) ∧ rE (0 : Nat) ∧ rE (0 : Nat) ∧ rE (0 : Nat) ∧ rE v.cl.1 ∧ (newG0 v) ∧ rE (↑v.cl.1 : Int) ∧ (0 : Int) = (↑z : Int) ∧ v.1 = v.1 ∧ v.2 = v.2 ∧ rE v.cl.1 ∧ (newG0 v) ∧ rE v.ho.1 ∧ (newG1 v) ∧ rE (0 : Int) ∧ rE (0 : Int) ∧ rE (0 : Int) ∧ rE (0 : Int) ∧ rE (0 : Int) ∧ rE (0 : Int) ∧ rE (0 : Int) ∧ rE (0 : Int) ∧ rE (0 : Int) ∧ rE (0 : Int) ∧ rE (0 : Int) ∧ rE (0 : Int) ∧ rE (0 : Int) ∧ rE (0 : Int) ∧ rE (Value.slice none (0 : Nat) (0 : Nat)) ∧ v.1 = v.1 ∧ v.2 = v.2 ∧ (0 : Int) = tal v.cl z (0 : Nat) ∧ (0 : Int) = tal v.cl z (1 : Nat) ∧ (0 : Int) = tal v.cl z (2 : Nat) ∧ (0 : Int) = tal v.cl z (3 : Nat) ∧ (0 : Int) = tal v.cl z (4 : Nat) ∧ (0 : Int) = tal v.cl z (5 : Nat) ∧ (0 : Int) = tal v.cl z (6 : Nat) ∧ (0 : Int) = tal v.cl z (7 : Nat) ∧ (0 : Int)
 = tal v.cl z (8 : Nat) ∧ (0 : Int) = tal v.cl z (9 : Nat) ∧ (0 : Int) = tal v.cl z (10 : Nat) ∧ (0 : Int) = tal v.cl z (11 : Nat) ∧ rE (Value.slice none (0 : Nat) (0 : Nat)) ∧ True) ∧ ∀ (z : Nat), z ≤ v.cl.1 → ((↑z : Int) < (↑v.cl.1 : Int) → (0 : Int) ≤ (↑z : Int) ∧ (↑z : Int) < (↑v.cl.1 : Int) ∧ (0 : Nat) < (1 : Nat) ∧ (0 : Nat) < (1 : Nat) ∧ (v.cl.2 (↑z : Int).toNat = true → okT (t12 (tal v.cl z)) ∧ rE (57 : FuncId) ∧ rI ((↑z : Int) + (1 : Int)) ∧ ∃ (z_1 : Nat), z_1 ≤ v.cl.1 ∧ v.cl.1 - z_1 < v.cl.1 - z ∧ rE (0 : Nat) ∧ rE (0 : Nat) ∧ rE (0 : Nat) ∧ rE (0 : Nat) ∧ rE (0 : Nat) ∧ rE (0 : Nat) ∧ rE v.cl.1 ∧ (newG0 v) ∧ rE (↑v.cl.1 : Int) ∧ (↑z : Int) + (1 : Int) = (↑z_1 : Int) ∧ v.1 = v.1 ∧ v.2 = v.2 ∧ rE v.cl.1 ∧ (newG0 v) ∧ rE v.ho.1 ∧ (newG1 v) ∧ rE (0 : Int) ∧ rE (0 : Int) ∧ rE (0 : Int) ∧ rE (0 : Int) ∧ rE (0 : Int) ∧ rE (0 : Int) ∧ rE (0 : Int) ∧ rE (0 : Int) ∧ rE (0 : Int) ∧ rE (0
 : Int) ∧ rE (0 : Int) ∧ rE (0 : Int) ∧ rE (0 : Int) ∧ rE (0 : Int) ∧ rE (Value.slice none (0 : Nat) (0 : Nat)) ∧ v.1 = v.1 ∧ v.2 = v.2 ∧ wt (t12 (tal v.cl z)) ⟨true, v.cl.su (↑z : Int).toNat, v.cl.ca (↑z : Int).toNat⟩ (12 : Nat) (0 : Nat) = tal v.cl z_1 (0 : Nat) ∧ wt (t12 (tal v.cl z)) ⟨true, v.cl.su (↑z : Int).toNat, v.cl.ca (↑z : Int).toNat⟩ (12 : Nat) (1 : Nat) = tal v.cl z_1 (1 : Nat) ∧ wt (t12 (tal v.cl z)) ⟨true, v.cl.su (↑z : Int).toNat, v.cl.ca (↑z : Int).toNat⟩ (12 : Nat) (2 : Nat) = tal v.cl z_1 (2 : Nat) ∧ wt (t12 (tal v.cl z)) ⟨true, v.cl.su (↑z : Int).toNat, v.cl.ca (↑z : Int).toNat⟩ (12 : Nat) (3 : Nat) = tal v.cl z_1 (3 : Nat) ∧ wt (t12 (tal v.cl z)) ⟨true, v.cl.su (↑z : Int).toNat, v.cl.ca (↑z : Int).toNat⟩ (12 : Nat) (4 : Nat) = tal v.cl z_1 (4 : Nat) ∧ wt (t12 (tal v.cl z)) ⟨true, v.cl.su (↑z : Int).toNat, v.cl.ca (↑z : Int).toNat⟩ (12 : Nat) (5 : Nat) = tal v.cl z_1 (5 : Nat) ∧ wt (t12 (tal v.cl z)) ⟨true, v.cl.su (↑z : Int).toNat, v.cl.ca (↑z : Int).toNat⟩ (12 : Nat) (6 : Nat) = tal v.cl z_1 (6 : Nat) ∧ wt (t12 (tal v.cl z)) ⟨true, v.cl.su (↑z : Int).toNat, v.cl.ca (↑z : Int).toNat⟩ (12 : Nat) (7 : Nat) = tal v.cl z_1 (7 : Nat) ∧ wt (t12 (tal v.cl z)) ⟨true, v.cl.su (↑z : Int).toNat, v.cl.ca (↑z : Int).toNat⟩ (12 : Nat) (8 : Nat) = tal v.cl z_1 (8 : Nat) ∧ wt (t12 (tal v.cl z)) ⟨true, v.cl.su (↑z : Int).toNat, v.cl.ca (↑z : Int).toNat⟩ (12 : Nat) (9 : Nat) = tal v.cl z_1 (9 : Nat) ∧ wt (t12 (tal v.cl z)) ⟨true, v.cl.su (↑z : Int).toNat, v.cl.ca (↑z : Int).toNat⟩ (12 : Nat) (10 : Nat) = tal v.cl z_1 (10 : Nat) ∧ wt (t12 (tal v.cl z)) ⟨true, v.cl.su (↑z : Int).toNat, v.cl.ca (↑z : Int).toNat⟩ (12 : Nat) (11 : Nat) = tal v.cl z_1 (11 : Nat) ∧ rE (Value.slice none (0 : Nat) (0 : Nat)) ∧ True) ∧ (¬v.cl.2 (↑z : Int).toNat = true → okT (t12 (tal v.cl z)) ∧ rE (58 : FuncId) ∧ rI ((↑z : Int) + (1 : Int)) ∧ ∃ (z_1 : Nat), z_1 ≤ v.cl.1 ∧ v.cl.1 - z_1 < v.cl.1 - z ∧ rE (0 : Nat) ∧ rE (0 : Nat) ∧ rE (0 : Nat) ∧ rE (0 : Nat) ∧ rE (0 : Nat) ∧ rE (0 : Nat) ∧ rE v.cl.1 ∧ (newG0 v) ∧ rE (↑v.cl.1 : Int) ∧ (↑z : Int) + (1 : Int) = (↑z_1 : Int) ∧ v.1 = v.1 ∧ v.2 = v.2 ∧ rE v.cl.1 ∧ (newG0 v) ∧ rE v.ho.1 ∧ (newG1 v) ∧ rE (0 : Int) ∧ rE (0 : Int) ∧ rE (0 : Int) ∧ rE (0 : Int) ∧ rE (0 : Int) ∧ rE (0 : Int) ∧ rE (0 : Int) ∧ rE (0 : Int) ∧ rE (0 : Int) ∧ rE (0 : Int) ∧ rE (0 : Int) ∧ rE (0 : Int) ∧ rE (0 : Int) ∧ rE (0 : Int) ∧ rE (Value.slice none (0 : Nat) (0 : Nat)) ∧ v.1 = v.1 ∧ v.2 = v.2 ∧ wt (t12 (tal v.cl z)) ⟨false, v.cl.su (↑z : Int).toNat, v.cl.ca (↑z : Int).toNat⟩ (12 : Nat) (0 : Nat) = tal v.cl z_1 (0 : Nat) ∧ wt (t12 (tal v.cl z)) ⟨false, v.cl.su (↑z : Int).toNat, v.cl.ca (↑z : Int).toNat⟩ (12 : Nat) (1 : Nat) = tal v.cl z_1 (1 : Nat) ∧ wt (t12 (tal v.cl z)) ⟨false, v.cl.su (↑z : Int).toNat, v.cl.ca (↑z : Int).toNat⟩ (12 : Nat) (2 : Nat) = tal v.cl z_1 (2 : Nat) ∧ wt (t12 (tal v.cl z)) ⟨false, v.cl.su (↑z : Int).toNat, v.cl.ca (↑z : Int).toNat⟩ (12 : Nat) (3 : Nat) = tal v.cl z_1 (3 : Nat) ∧ wt (t12 (tal v.cl z)) ⟨false, v.cl.su (↑z : Int).toNat, v.cl.ca (↑z : Int).toNat⟩ (12 : Nat) (4 : Nat) = tal v.cl z_1 (4 : Nat) ∧ wt (t12 (tal v.cl z)) ⟨false, v.cl.su (↑z : Int).toNat, v.cl.ca (↑z : Int).toNat⟩ (12 : Nat) (5 : Nat) = tal v.cl z_1 (5 : Nat) ∧ wt (t12 (tal v.cl z)) ⟨false, v.cl.su (↑z : Int).toNat, v.cl.ca (↑z : Int).toNat⟩ (12 : Nat) (6 : Nat) = tal v.cl z_1 (6 : Nat) ∧ wt (t12 (tal v.cl z)) ⟨false, v.cl.su (↑z : Int).toNat, v.cl.ca (↑z : Int).toNat⟩ (12 : Nat) (7 : Nat) = tal v.cl z_1 (7 : Nat) ∧ wt (t12 (tal v.cl z)) ⟨false, v.cl.su (↑z : Int).toNat, v.cl.ca (↑z : Int).toNat⟩ (12 : Nat) (8 : Nat) = tal v.cl z_1 (8 : Nat) ∧ wt (t12 (tal v.cl z)) ⟨false, v.cl.su (↑z : Int).toNat, v.cl.ca (↑z : Int).toNat⟩ (12 : Nat) (9 : Nat) = tal v.cl z_1 (9 : Nat) ∧ wt (t12 (tal v.cl z)) ⟨false, v.cl.su (↑z : Int).toNat, v.cl.ca (↑z : Int).toNat⟩ (12 : Nat) (10 : Nat) = tal v.cl z_1 (10 : Nat) ∧ wt (t12 (tal v.cl z)) ⟨false, v.cl.su (↑z : Int).toNat, v.cl.ca (↑z : Int).toNat⟩ (12 : Nat) (11 : Nat) = tal v.cl z_1 (11 : Nat) ∧ rE (Value.slice none (0 : Nat) (0 : Nat)) ∧
 True)) ∧ (¬(↑z : Int) < (↑v.cl.1 : Int) → (0 : Nat) < (1 : Nat) ∧ (((0 : Int) < (↑v.ho.1 : Int) → (0 : Int) ≤ (0 : Int) ∧ (0 : Int) < (↑v.ho.1 : Int) ∧ (0 : Nat) < (1 : Nat) ∧ (0 : Nat) < (1 : Nat) ∧ True ∧ (∀ (i : Nat), i < (1 : Nat) → rE true) ∧ (1 : Nat) * (16 : Nat) ≤ (140737488355328 : Nat) ∧ (1 : Nat) ≤ (4611686018427387904 : Nat) ∧ rI ((0 : Int) + (1 : Int)) ∧ ((0 : Int) + (1 : Int)).toNat ≤ v.ho.1 ∧ v.ho.1 - ((0 : Int) + (1 : Int)).toNat < v.ho.1 + (1 : Nat) ∧ rE (0 : Nat) ∧ rE (0 : Nat) ∧ rE (0 : Nat) ∧ rE (0 : Nat) ∧ rE (0 : Nat) ∧ rE (0 : Nat) ∧ rE v.ho.1 ∧ (newG1 v) ∧ rE (↑v.ho.1 : Int) ∧ (0 : Int) + (1 : Int) = (↑((0 : Int) + (1 : Int)).toNat : Int) ∧ v.1 = v.1 ∧ v.2 = v.2 ∧ rE v.cl.1 ∧ (newG0 v) ∧ rE v.ho.1 ∧ (newG1 v) ∧ rE (0 : Int) ∧ rE (0 : Int) ∧ rE (0 : Int) ∧ rE (0 : Int) ∧ rE (0 : Int) ∧ rE (0 : Int) ∧ rE (0 : Int) ∧ rE (0 : Int) ∧ rE (0 : Int) ∧ rE (0 : Int) ∧ rE (0
 : Int) ∧ rE (0 : Int) ∧ rE (0 : Int) ∧ rE (0 : Int) ∧ rE (Value.slice none (0 : Nat) (0 : Nat)) ∧ v.1 = v.1 ∧ v.2 = v.2 ∧ tal v.cl z (0 : Nat) = tal v.cl v.cl.1 (0 : Nat) ∧ tal v.cl z (1 : Nat) = tal v.cl v.cl.1 (1 : Nat) ∧ tal v.cl z (2 : Nat) = tal v.cl v.cl.1 (2 : Nat) ∧ tal v.cl z (3 : Nat) = tal v.cl v.cl.1 (3 : Nat) ∧ tal v.cl z (4 : Nat) = tal v.cl v.cl.1 (4 : Nat) ∧ tal v.cl z (5 : Nat) = tal v.cl v.cl.1 (5 : Nat) ∧ tal v.cl z (6 : Nat) = tal v.cl v.cl.1 (6 : Nat) ∧ tal v.cl z (7 : Nat) = tal v.cl v.cl.1 (7 : Nat) ∧ tal v.cl z (8 : Nat) = tal v.cl v.cl.1 (8 : Nat) ∧ tal v.cl z (9 : Nat) = tal v.cl v.cl.1 (9 : Nat) ∧ tal v.cl z (10 : Nat) = tal v.cl v.cl.1 (10 : Nat) ∧ tal v.cl z (11 : Nat) = tal v.cl v.cl.1 (11 : Nat) ∧ rE (0 : Nat) ∧ (1 : Nat) = ((0 : Int) + (1 : Int)).toNat ∧ rE (1 : Nat) ∧ (∀ (i : Nat), i < (1 : Nat) → rE (2 : Nat) ∧ rE (Fn.func (57 : FuncId)) ∧ SV.denL
 [SV.bool true, i6 (v.ho.su (Int.toNat (0 : Int))), i6 (v.ho.ca (Int.toNat (0 : Int)))] = SV.denL [SV.bool true, i6 (v.ho.su i), i6 (v.ho.ca i)] ∧ (tt4) ∧ rE (Fn.func (58 : FuncId)) ∧ SV.denL [SV.bool false, i6 (v.ho.su (Int.toNat (0 : Int))), i6 (v.ho.ca (Int.toNat (0 : Int)))] = SV.denL [SV.bool false, i6 (v.ho.su i), i6 (v.ho.ca i)] ∧ (tt4) ∧ True) ∧ True) ∧ (¬(0 : Int) < (↑v.ho.1 : Int) → (0 : Nat) < (1 : Nat) ∧ (0 : Nat) < (1 : Nat) ∧ v.1 = v.1 ∧ v.2 = v.2 ∧ tal v.cl z (0 : Nat) = tal v.cl v.cl.1 (0 : Nat) ∧ tal v.cl z (1 : Nat) = tal v.cl v.cl.1 (1 : Nat) ∧ tal v.cl z (2 : Nat) = tal v.cl v.cl.1 (2 : Nat) ∧ tal v.cl z (3 : Nat) = tal v.cl v.cl.1 (3 : Nat) ∧ tal v.cl z (4 : Nat) = tal v.cl v.cl.1 (4 : Nat) ∧ tal v.cl z (5 : Nat) = tal v.cl v.cl.1 (5 : Nat) ∧ tal v.cl z (6 : Nat) = tal v.cl v.cl.1 (6 : Nat) ∧ tal v.cl z (7 : Nat) = tal v.cl v.cl.1 (7 : Nat) ∧ tal v.cl z (8 : Nat) =
 tal v.cl v.cl.1 (8 : Nat) ∧ tal v.cl z (9 : Nat) = tal v.cl v.cl.1 (9 : Nat) ∧ tal v.cl z (10 : Nat) = tal v.cl v.cl.1 (10 : Nat) ∧ tal v.cl z (11 : Nat) = tal v.cl v.cl.1 (11 : Nat) ∧ (0 : Nat) = v.ho.1 ∧ True)) ∧ ∀ (z : Nat), z ≤ v.ho.1 → ((↑z : Int) < (↑v.ho.1 : Int) → (0 : Int) ≤ (↑z : Int) ∧ (↑z : Int) < (↑v.ho.1 : Int) ∧ (0 : Nat) < (1 : Nat) ∧ (0 : Nat) < (1 : Nat) ∧ True ∧ (∀ (i : Nat), i < (1 : Nat) → rE true) ∧ rE (0 : Nat) ∧ z = z ∧ (∀ (i : Nat), rE true) ∧ (z + (1 : Nat)) * (16 : Nat) ≤ (140737488355328 : Nat) ∧ z + (1 : Nat) ≤ (4611686018427387904 : Nat) ∧ rI ((↑z : Int) + (1 : Int)) ∧ ((↑z : Int) + (1 : Int)).toNat ≤ v.ho.1 ∧ v.ho.1 - ((↑z : Int) + (1 : Int)).toNat < v.ho.1 - z ∧ rE (0 : Nat) ∧ rE (0 : Nat) ∧ rE (0 : Nat) ∧ rE (0 : Nat) ∧ rE (0 : Nat) ∧ rE (0 : Nat) ∧ rE v.ho.1 ∧ (newG1 v) ∧ rE (↑v.ho.1 : Int) ∧ (↑z : Int) + (1 : Int) = (↑((↑z : Int) + (1 : Int)).toNat :
 Int) ∧ v.1 = v.1 ∧ v.2 = v.2 ∧ rE v.cl.1 ∧ (newG0 v) ∧ rE v.ho.1 ∧ (newG1 v) ∧ rE (0 : Int) ∧ rE (0 : Int) ∧ rE (0 : Int) ∧ rE (0 : Int) ∧ rE (0 : Int) ∧ rE (0 : Int) ∧ rE (0 : Int) ∧ rE (0 : Int) ∧ rE (0 : Int) ∧ rE (0 : Int) ∧ rE (0 : Int) ∧ rE (0 : Int) ∧ rE (0 : Int) ∧ rE (0 : Int) ∧ rE (Value.slice none (0 : Nat) (0 : Nat)) ∧ v.1 = v.1 ∧ v.2 = v.2 ∧ rE (tal v.cl v.cl.1 (0 : Nat)) ∧ rE (tal v.cl v.cl.1 (1 : Nat)) ∧ rE (tal v.cl v.cl.1 (2 : Nat)) ∧ rE (tal v.cl v.cl.1 (3 : Nat)) ∧ rE (tal v.cl v.cl.1 (4 : Nat)) ∧ rE (tal v.cl v.cl.1 (5 : Nat)) ∧ rE (tal v.cl v.cl.1 (6 : Nat)) ∧ rE (tal v.cl v.cl.1 (7 : Nat)) ∧ rE (tal v.cl v.cl.1 (8 : Nat)) ∧ rE (tal v.cl v.cl.1 (9 : Nat)) ∧ rE (tal v.cl v.cl.1 (10 : Nat)) ∧ rE (tal v.cl v.cl.1 (11 : Nat)) ∧ rE (0 : Nat) ∧ z + (1 : Nat) = ((↑z : Int) + (1 : Int)).toNat ∧ ((↑z : Int) + (1 : Int)).toNat = z + (1 : Nat) ∧ (∀ (i : Nat), i < ((↑z : Int) +
 (1 : Int)).toNat → rE (2 : Nat) ∧ rE (Fn.func (57 : FuncId)) ∧ SV.denL (selZ (i < z) (i.decLt z) [SV.bool true, i6 (v.ho.su i), i6 (v.ho.ca i)] [SV.bool true, i6 (v.ho.su (↑z : Int).toNat), i6 (v.ho.ca (↑z : Int).toNat)]) = SV.denL [SV.bool true, i6 (v.ho.su i), i6 (v.ho.ca i)] ∧ (tt4) ∧ rE (Fn.func (58 : FuncId)) ∧ SV.denL (selZ (i < z) (i.decLt z) [SV.bool false, i6 (v.ho.su i), i6 (v.ho.ca i)] [SV.bool false, i6 (v.ho.su (↑z : Int).toNat), i6 (v.ho.ca (↑z : Int).toNat)]) = SV.denL [SV.bool false, i6 (v.ho.su i), i6 (v.ho.ca i)] ∧ (tt4) ∧ True) ∧ True) ∧ (¬(↑z : Int) < (↑v.ho.1 : Int) → (0 : Nat) < (1 : Nat) ∧ (0 : Nat) < (1 : Nat) ∧ v.1 = v.1 ∧ v.2 = v.2 ∧ rE (tal v.cl v.cl.1 (0 : Nat)) ∧ rE (tal v.cl v.cl.1 (1 : Nat)) ∧ rE (tal v.cl v.cl.1 (2 : Nat)) ∧ rE (tal v.cl v.cl.1 (3 : Nat)) ∧ rE (tal v.cl v.cl.1 (4 : Nat)) ∧ rE (tal v.cl v.cl.1 (5 : Nat)) ∧ rE (tal v.cl v.cl.1 (6 : Nat)) ∧
 rE (tal v.cl v.cl.1 (7 : Nat)) ∧ rE (tal v.cl v.cl.1 (8 : Nat)) ∧ rE (tal v.cl v.cl.1 (9 : Nat)) ∧ rE (tal v.cl v.cl.1 (10 : Nat)) ∧ rE (tal v.cl v.cl.1 (11 : Nat)) ∧ z = v.ho.1 ∧ (0 : Nat) + v.ho.1 ≤ z ∧ (∀ (i : Nat), i < v.ho.1 → rE (2 : Nat) ∧ rE (2 : Nat) ∧ SV.denL [SV.bool true, i6 (v.ho.su (i + (0 : Nat))), i6 (v.ho.ca (i + (0 : Nat)))] = SV.denL [SV.bool true, i6 (v.ho.su i), i6 (v.ho.ca i)] ∧ (tt4) ∧ SV.denL [SV.bool false, i6 (v.ho.su (i + (0 : Nat))), i6 (v.ho.ca (i + (0 : Nat)))] = SV.denL [SV.bool false, i6 (v.ho.su i), i6 (v.ho.ca i)] ∧ (tt4) ∧ True) ∧ True))) := by kernel_rfl
end Go.Proofs.Ytfjfnpknlkonnaa

set_option maxRecDepth 100000
namespace Go.Proofs.Ytfjfnpknlkonnaa
open Go Go.Lg
attribute [local irreducible] funS bodyH
theorem agN_01 (c : Cl) (n : Nat) : 0 ≤ agN c n ∧ agN c n ≤ 1 := by
  unfold agN
  split <;> omega
theorem tal_le (c : Cs) : ∀ k i, 0 ≤ tal c k i ∧ tal c k i ≤ k
  | 0, i => by simp [tal]
  | k + 1, i => by
    have h1 := tal_le c k i
    have h2 := agN_01 (c.cl k) i
    simp only [tal]
    omega
theorem f12_at (t : Nat → Int) {i : Nat} (h : i < 12) : f12 (t 0) (t 1) (t 2) (t 3) (t 4) (t 5) (t 6) (t 7) (t 8) (t 9) (t 10) (t 11) i = t i := by
  have : i = 0 ∨ i = 1 ∨ i = 2 ∨ i = 3 ∨ i = 4 ∨ i = 5 ∨ i = 6 ∨ i = 7 ∨ i = 8 ∨ i = 9 ∨ i = 10 ∨ i = 11 := by omega
  rcases this with rfl | rfl | rfl | rfl | rfl | rfl | rfl | rfl | rfl | rfl | rfl | rfl <;> rfl
theorem tal_ok (c : Cs) {z : Nat} (h : z ≤ 1000) : okT (f12 (tal c z 0) (tal c z 1) (tal c z 2) (tal c z 3) (tal c z 4) (tal c z 5) (tal c z 6) (tal c z 7) (tal c z 8) (tal c z 9) (tal c z 10) (tal c z 11)) := by
  refine ⟨fun i hi => ?_⟩
  rw [f12_at (tal c z) hi]
  have := tal_le c z i
  omega
theorem wt_tal (c : Cs) (z : Nat) (b : Bool) (hb : c.g z = b) (i : Nat) (h : i < 12) : wt (f12 (tal c z 0) (tal c z 1) (tal c z 2) (tal c z 3) (tal c z 4) (tal c z 5) (tal c z 6) (tal c z 7) (tal c z 8) (tal c z 9) (tal c z 10) (tal c z 11)) ⟨b, c.su z, c.ca z⟩ 12 i = tal c (z + 1) i := by
  unfold wt
  rw [if_pos h, f12_at (tal c z) h]
  subst hb
  rfl
theorem sel_hole (b : Bool) (s a : Nat → Int) {i z : Nat} (h : i < z + 1) : SV.denL (selZ (i < z) (i.decLt z) [SV.bool b, i6 (s i), i6 (a i)] [SV.bool b, i6 (s z), i6 (a z)]) = SV.denL [SV.bool b, i6 (s i), i6 (a i)] := by
  rw [selZ_den _ _ _ _ rfl]
  by_cases e : i < z
  · rw [if_pos e]
  · have : i = z := by omega
    subst this
    rw [if_neg e]
theorem new_true {v : Sq} (h1 : v.cl.n ≤ 20) (h2 : v.ho.n ≤ 12) : newG v := by
  rw [newG_vc]
  simp only [newG0, newG1, rI, rE, tt3, tt4, tt5, tt13, tt14, t12, and_true, true_and, Nat.zero_lt_one, Int.toNat_natCast, and_self, Nat.zero_add, Nat.add_zero, implies_true, Int.reduceToNat, Int.toNat_zero, Int.zero_add, Int.le_refl]
  refine ⟨⟨0, by omega, rfl, rfl, rfl, rfl, rfl, rfl, rfl, rfl, rfl, rfl, rfl, rfl, rfl⟩, fun z hz => ⟨fun hl => ?_, fun hl => ?_⟩⟩
  · have hz' : z < v.cl.n := by omega
    have ok := tal_ok v.cl (z := z) (by omega)
    refine ⟨by omega, by omega, fun hg => ⟨ok, by omega, z + 1, by omega, by omega, by omega, ?_⟩, fun hg => ⟨ok, by omega, z + 1, by omega, by omega, by omega, ?_⟩⟩
    · have Y := wt_tal v.cl z true hg
      exact ⟨Y 0 (by omega), Y 1 (by omega), Y 2 (by omega), Y 3 (by omega), Y 4 (by omega), Y 5 (by omega), Y 6 (by omega), Y 7 (by omega), Y 8 (by omega), Y 9 (by omega), Y 10 (by omega), Y 11 (by omega)⟩
    · have Y := wt_tal v.cl z false (by simpa using hg)
      exact ⟨Y 0 (by omega), Y 1 (by omega), Y 2 (by omega), Y 3 (by omega), Y 4 (by omega), Y 5 (by omega), Y 6 (by omega), Y 7 (by omega), Y 8 (by omega), Y 9 (by omega), Y 10 (by omega), Y 11 (by omega)⟩
  · have : z = v.cl.n := by omega
    subst this
    refine ⟨⟨fun h => ?_, fun h => ?_⟩, fun z hz => ⟨fun h => ?_, fun h => ?_⟩⟩
    · refine ⟨h, by omega, by omega, by omega, by omega, by omega, rfl, rfl, rfl, rfl, rfl, rfl, rfl, rfl, rfl, rfl, rfl, rfl, rfl, fun i hi => ?_⟩
      have : i = 0 := by omega
      subst this
      exact ⟨rfl, rfl⟩
    · exact ⟨rfl, rfl, rfl, rfl, rfl, rfl, rfl, rfl, rfl, rfl, rfl, rfl, by omega⟩
    · refine ⟨by omega, h, by omega, by omega, by omega, by omega, by omega, by omega, by omega, by omega, fun i hi => ?_⟩
      exact ⟨sel_hole true v.ho.su v.ho.ca (by omega), sel_hole false v.ho.su v.ho.ca (by omega)⟩
    · omega
theorem csN_ok : SoundS Try.prog csN := ctrsF_sound nilS_cs (by
  intro x hx
  simp at hx
  rcases hx with rfl | rfl | rfl
  · exact fo_ok
  · exact find_ok
  · exact with_ok)
theorem new_does {v : Sq} (h1 : v.cl.n ≤ 20) (h2 : v.ho.n ≤ 12) : Does Try.prog 33 false (SV.denL [v.sv]) (iqW v.ma v.wr (tal v.cl v.cl.n) (hoV v.ho)).den := by
  have hh := new_true h1 h2
  unfold newG at hh
  exact funH_does csN_ok nilS_x nilS_ic mixed hh
end Go.Proofs.Ytfjfnpknlkonnaa

namespace Go.Proofs.Ytfjfnpknlkonnaa
open Go Go.Lg
attribute [local irreducible] bodyH
def suOf (x : SV) : Int := match x with
  | .agg [.clo _ _ [.ipt [_, .int _ s, _]], _] => s
  | _ => 0
def caOf (x : SV) : Int := match x with
  | .agg [.clo _ _ [.ipt [_, _, .int _ a]], _] => a
  | _ => 0
def hoOf (n : Nat) (f : Nat → SV) : Cs := ⟨n, fun _ => false, fun k => suOf (f k), fun k => caOf (f k)⟩
noncomputable def bts49G (ma wr : Int) (fo t : Nat → Int) (h : Cs) : Prop := funH Try.prog (ctrs []) noX (ictrs []) noL noL 49 [.agg (iqV ma wr fo h), T12 t] (.clo (.func 59) [] [.ipt (iqV ma wr fo h), .ipt (cells' (T12 t))])
def bitsC : Ctr := ⟨49, fun args k => match args with
  | [.agg [.int .i64 ma, .int .i64 wr, .int .i64 f0, .int .i64 f1, .int .i64 f2, .int .i64 f3, .int .i64 f4, .int .i64 f5, .int .i64 f6, .int .i64 f7, .int .i64 f8, .int .i64 f9, .int .i64 f10, .int .i64 f11, .lst 2 n f], .agg [.int .i64 a0, .int .i64 a1, .int .i64 a2, .int .i64 a3, .int .i64 a4, .int .i64 a5, .int .i64 a6, .int .i64 a7, .int .i64 a8, .int .i64 a9, .int .i64 a10, .int .i64 a11]] =>
    SV.lst 2 n f = hoV (hoOf n f) ∧ k (.clo (.func 59) [] [.ipt (iqV ma wr (f12 f0 f1 f2 f3 f4 f5 f6 f7 f8 f9 f10 f11) (hoOf n f)), .ipt (cells' (T12 (f12 a0 a1 a2 a3 a4 a5 a6 a7 a8 a9 a10 a11)))])
  | _ => False⟩
noncomputable def bitsI : ICtr := ⟨59, fun fs us k => match fs, us with
  | [], [.ipt [.int .i64 ma, .int .i64 wr, .int .i64 f0, .int .i64 f1, .int .i64 f2, .int .i64 f3, .int .i64 f4, .int .i64 f5, .int .i64 f6, .int .i64 f7, .int .i64 f8, .int .i64 f9, .int .i64 f10, .int .i64 f11, .lst 2 n f], .ipt [.int .i64 a0, .int .i64 a1, .int .i64 a2, .int .i64 a3, .int .i64 a4, .int .i64 a5, .int .i64 a6, .int .i64 a7, .int .i64 a8, .int .i64 a9, .int .i64 a10, .int .i64 a11]] =>
    (1 ≤ ma ∧ ma ≤ 12) ∧ SV.lst 2 n f = hoV (hoOf n f) ∧ k (susL (f12 a0 a1 a2 a3 a4 a5 a6 a7 a8 a9 a10 a11) wr ma.toNat).length 1 fun i => [i6 (shP ((susL (f12 a0 a1 a2 a3 a4 a5 a6 a7 a8 a9 a10 a11) wr ma.toNat).getD i 0 : Nat))]
  | _, _ => False⟩
noncomputable def orN (l : List Nat) : Nat → Int
  | 0 => 0
  | j + 1 => bitO .i64 (orN l j) (shP (l.getD j 0 : Nat))
noncomputable def csB : CSpec := ctrsF [bitsC] (ctrs [])
noncomputable def cntG (ma : Nat) (wr : Int) (fo t : Nat → Int) (h : Cs) : Prop := funH Try.prog csB noX (ictrs [bitsI]) noL
  (oneL 0 (itS 3 (fun j => j ≤ 12) (mkF 13 [(2, .ptr 0 0 0), (3, .ptr 1 0 0), (5, .ptr 2 0 0)]) (fun j => mkX [vr 15 (.agg (iqV ma wr fo h)), vr 12 (T12 t), vr 1 (i6 j)]) (fun _ => none))) 51 [.agg (iqV ma wr fo h), T12 t] (i6 (susL t wr ma).length)
noncomputable def susG (ma : Nat) (wr : Int) (fo t : Nat → Int) (h : Cs) : Prop := funH Try.prog csB noX (ictrs [bitsI]) noL
  (oneL 0 (itS 3 (fun j => True) (mkF 15 [(2, .ptr 0 0 0), (3, .ptr 1 0 0), (5, .ptr 2 0 0)]) (fun j => mkX [vr 15 (.agg (iqV ma wr fo h)), vr 12 (T12 t), vr 1 (i6 (orN (susL t wr ma) j))]) (fun _ => none))) 34 [.agg (iqV ma wr fo h), T12 t] (i6 (orN (susL t wr ma) (susL t wr ma).length))
end Go.Proofs.Ytfjfnpknlkonnaa

set_option maxRecDepth 100000
namespace Go.Proofs.Ytfjfnpknlkonnaa
open Go Go.Lg
theorem bts49G_vc (ma : Int) (wr : Int) (fo : Nat → Int) (t : Nat → Int) (h : Cs) : bts49G ma wr fo t h = ((0 : Nat) < (1 : Nat) ∧ ma = ma ∧ wr = wr ∧ rE (fo (0 : Nat)) ∧ rE (fo (1 : Nat)) ∧ rE (fo (2 : Nat)) ∧ rE (fo (3 : Nat)) ∧ rE (fo (4 : Nat)) ∧ rE (fo (5 : Nat)) ∧ rE (fo (6 : Nat)) ∧ rE (fo (7 : Nat)) ∧ rE (fo (8 : Nat)) ∧ rE (fo (9 : Nat)) ∧ rE (fo (10 : Nat)) ∧ rE (fo (11 : Nat)) ∧ h.1 = h.1 ∧ (∀ (i : Nat), i < h.1 → rE ((SV.agg [SV.clo (Fn.func (57 : FuncId)) [] [SV.ipt [SV.bool true, i6 (h.su i), i6 (h.ca i)]], SV.clo (Fn.func (58 : FuncId)) [] [SV.ipt [SV.bool false, i6 (h.su i), i6 (h.ca i)]]]).den) ∧ (True ∧ (tt4) ∧ True) ∧ (True ∧ (tt4) ∧ True) ∧ True) ∧ (0 : Nat) < (1 : Nat) ∧ rE (t (0 : Nat)) ∧ rE (t (1 : Nat)) ∧ rE (t (2 : Nat)) ∧ rE (t (3 : Nat)) ∧ rE (t (4 : Nat)) ∧ rE (t (5 : Nat)) ∧ rE (t (6 : Nat)) ∧ rE (t (7 : Nat)) ∧ rE (t (8 : Nat)) ∧ rE (t (9 : Nat)) ∧ rE (t (10 : Nat)) ∧ rE (t (11 : Nat)) ∧ True) := by kernel_rfl
theorem cntG_vc (ma : Nat) (wr : Int) (fo : Nat → Int) (t : Nat → Int) (h : Cs) : cntG ma wr fo t h = ((0 : Nat) < (1 : Nat) ∧ (0 : Nat) < (1 : Nat) ∧ (∀ (i : Nat), i < h.1 → (True ∧ (tt4) ∧ True) ∧ (True ∧ (tt4) ∧ True) ∧ True) ∧ (SV.lst (2 : Nat) h.n fun (k : Nat) => SV.agg [SV.clo (Fn.func (57 : FuncId)) [] [SV.ipt [SV.bool true, i6 (h.su k), i6 (h.ca k)]], SV.clo (Fn.func (58 : FuncId)) [] [SV.ipt [SV.bool false, i6 (h.su k), i6 (h.ca k)]]]) = hoV (hoOf h.n fun (k : Nat) => SV.agg [SV.clo (Fn.func (57 : FuncId)) [] [SV.ipt [SV.bool true, i6 (h.su k), i6 (h.ca k)]], SV.clo (Fn.func (58 : FuncId)) [] [SV.ipt [SV.bool false, i6 (h.su k), i6 (h.ca k)]]]) ∧ (∀ (i : Nat), i < h.1 → (True ∧ (tt4) ∧ True) ∧ (True ∧ (tt4) ∧ True) ∧ True) ∧ ((1 : Int) ≤ (↑ma : Int) ∧ (↑ma : Int) ≤ (12 : Int)) ∧ (SV.lst (2 : Nat) (hoOf h.n fun (k : Nat) => SV.agg [SV.clo (Fn.func (57 : FuncId)) [] [SV.ipt [SV.bool true, i6 (h.su k), i6 (h.ca k)]], SV.clo (Fn.func (58 : FuncId)) [] [SV.ipt [SV.bool false, i6
 (h.su k), i6 (h.ca k)]]]).n fun (k : Nat) => SV.agg [SV.clo (Fn.func (57 : FuncId)) [] [SV.ipt [SV.bool true, i6 ((hoOf h.n fun (k : Nat) => SV.agg [SV.clo (Fn.func (57 : FuncId)) [] [SV.ipt [SV.bool true, i6 (h.su k), i6 (h.ca k)]], SV.clo (Fn.func (58 : FuncId)) [] [SV.ipt [SV.bool false, i6 (h.su k), i6 (h.ca k)]]]).su k), i6 ((hoOf h.n fun (k : Nat) => SV.agg [SV.clo (Fn.func (57 : FuncId)) [] [SV.ipt [SV.bool true, i6 (h.su k), i6 (h.ca k)]], SV.clo (Fn.func (58 : FuncId)) [] [SV.ipt [SV.bool false, i6 (h.su k), i6 (h.ca k)]]]).ca k)]], SV.clo (Fn.func (58 : FuncId)) [] [SV.ipt [SV.bool false, i6 ((hoOf h.n fun (k : Nat) => SV.agg [SV.clo (Fn.func (57 : FuncId)) [] [SV.ipt [SV.bool true, i6 (h.su k), i6 (h.ca k)]], SV.clo (Fn.func (58 : FuncId)) [] [SV.ipt [SV.bool false, i6 (h.su k), i6 (h.ca k)]]]).su k), i6 ((hoOf h.n fun (k : Nat) => SV.agg [SV.clo (Fn.func (57 : FuncId)) []
 [SV.ipt [SV.bool true, i6 (h.su k), i6 (h.ca k)]], SV.clo (Fn.func (58 : FuncId)) [] [SV.ipt [SV.bool false, i6 (h.su k), i6 (h.ca k)]]]).ca k)]]]) = hoV (hoOf (hoOf h.n fun (k : Nat) => SV.agg [SV.clo (Fn.func (57 : FuncId)) [] [SV.ipt [SV.bool true, i6 (h.su k), i6 (h.ca k)]], SV.clo (Fn.func (58 : FuncId)) [] [SV.ipt [SV.bool false, i6 (h.su k), i6 (h.ca k)]]]).n fun (k : Nat) => SV.agg [SV.clo (Fn.func (57 : FuncId)) [] [SV.ipt [SV.bool true, i6 ((hoOf h.n fun (k : Nat) => SV.agg [SV.clo (Fn.func (57 : FuncId)) [] [SV.ipt [SV.bool true, i6 (h.su k), i6 (h.ca k)]], SV.clo (Fn.func (58 : FuncId)) [] [SV.ipt [SV.bool false, i6 (h.su k), i6 (h.ca k)]]]).su k), i6 ((hoOf h.n fun (k : Nat) => SV.agg [SV.clo (Fn.func (57 : FuncId)) [] [SV.ipt [SV.bool true, i6 (h.su k), i6 (h.ca k)]], SV.clo (Fn.func (58 : FuncId)) [] [SV.ipt [SV.bool false, i6 (h.su k), i6 (h.ca k)]]]).ca k)]], SV.clo
 (Fn.func (58 : FuncId)) [] [SV.ipt [SV.bool false, i6 ((hoOf h.n fun (k : Nat) => SV.agg [SV.clo (Fn.func (57 : FuncId)) [] [SV.ipt [SV.bool true, i6 (h.su k), i6 (h.ca k)]], SV.clo (Fn.func (58 : FuncId)) [] [SV.ipt [SV.bool false, i6 (h.su k), i6 (h.ca k)]]]).su k), i6 ((hoOf h.n fun (k : Nat) => SV.agg [SV.clo (Fn.func (57 : FuncId)) [] [SV.ipt [SV.bool true, i6 (h.su k), i6 (h.ca k)]], SV.clo (Fn.func (58 : FuncId)) [] [SV.ipt [SV.bool false, i6 (h.su k), i6 (h.ca k)]]]).ca k)]]]) ∧ ((True ∧ True ∧ True ∧ True ∧ True ∧ True ∧ True ∧ True ∧ True ∧ True ∧ True ∧ True ∧ True ∧ True ∧ (∀ (i : Nat), i < h.1 → (True ∧ (tt4) ∧ True) ∧ (True ∧ (tt4) ∧ True) ∧ True) ∧ True) ∧ (tt13) ∧ ∃ (z : Nat), (z = (0 : Nat) ∧ (0 : Nat) ≤ (12 : Nat)) ∧ rE (0 : Nat) ∧ rE (0 : Nat) ∧ rE (0 : Nat) ∧ rE (0 : Nat) ∧ rE (0 : Nat) ∧ rE (0 : Nat) ∧ rE (Fn.func (59 : FuncId)) ∧ SV.denL (iqV (↑ma : Int) wr (t12
 (fo)) (hoOf h.n fun (k : Nat) => SV.agg [SV.clo (Fn.func (57 : FuncId)) [] [SV.ipt [SV.bool true, i6 (h.su k), i6 (h.ca k)]], SV.clo (Fn.func (58 : FuncId)) [] [SV.ipt [SV.bool false, i6 (h.su k), i6 (h.ca k)]]])) = SV.denL [SV.int IntKind.i64 (↑ma : Int), SV.int IntKind.i64 wr, SV.int IntKind.i64 (t12 (fo) (0 : Nat)), SV.int IntKind.i64 (t12 (fo) (1 : Nat)), SV.int IntKind.i64 (t12 (fo) (2 : Nat)), SV.int IntKind.i64 (t12 (fo) (3 : Nat)), SV.int IntKind.i64 (t12 (fo) (4 : Nat)), SV.int IntKind.i64 (t12 (fo) (5 : Nat)), SV.int IntKind.i64 (t12 (fo) (6 : Nat)), SV.int IntKind.i64 (t12 (fo) (7 : Nat)), SV.int IntKind.i64 (t12 (fo) (8 : Nat)), SV.int IntKind.i64 (t12 (fo) (9 : Nat)), SV.int IntKind.i64 (t12 (fo) (10 : Nat)), SV.int IntKind.i64 (t12 (fo) (11 : Nat)), SV.lst (2 : Nat) (hoOf h.n fun (k : Nat) => SV.agg [SV.clo (Fn.func (57 : FuncId)) [] [SV.ipt [SV.bool true, i6 (h.su k), i6
 (h.ca k)]], SV.clo (Fn.func (58 : FuncId)) [] [SV.ipt [SV.bool false, i6 (h.su k), i6 (h.ca k)]]]).n fun (k : Nat) => SV.agg [SV.clo (Fn.func (57 : FuncId)) [] [SV.ipt [SV.bool true, i6 ((hoOf h.n fun (k : Nat) => SV.agg [SV.clo (Fn.func (57 : FuncId)) [] [SV.ipt [SV.bool true, i6 (h.su k), i6 (h.ca k)]], SV.clo (Fn.func (58 : FuncId)) [] [SV.ipt [SV.bool false, i6 (h.su k), i6 (h.ca k)]]]).su k), i6 ((hoOf h.n fun (k : Nat) => SV.agg [SV.clo (Fn.func (57 : FuncId)) [] [SV.ipt [SV.bool true, i6 (h.su k), i6 (h.ca k)]], SV.clo (Fn.func (58 : FuncId)) [] [SV.ipt [SV.bool false, i6 (h.su k), i6 (h.ca k)]]]).ca k)]], SV.clo (Fn.func (58 : FuncId)) [] [SV.ipt [SV.bool false, i6 ((hoOf h.n fun (k : Nat) => SV.agg [SV.clo (Fn.func (57 : FuncId)) [] [SV.ipt [SV.bool true, i6 (h.su k), i6 (h.ca k)]], SV.clo (Fn.func (58 : FuncId)) [] [SV.ipt [SV.bool false, i6 (h.su k), i6 (h.ca k)]]]).su k), i6
 ((hoOf h.n fun (k : Nat) => SV.agg [SV.clo (Fn.func (57 : FuncId)) [] [SV.ipt [SV.bool true, i6 (h.su k), i6 (h.ca k)]], SV.clo (Fn.func (58 : FuncId)) [] [SV.ipt [SV.bool false, i6 (h.su k), i6 (h.ca k)]]]).ca k)]]]] ∧ (True ∧ True ∧ True ∧ True ∧ True ∧ True ∧ True ∧ True ∧ True ∧ True ∧ True ∧ True ∧ True ∧ True ∧ (∀ (i : Nat), i < h.1 → (True ∧ (tt4) ∧ True) ∧ (True ∧ (tt4) ∧ True) ∧ True) ∧ True) ∧ SV.denL (cells' (T12 (t12 (t)))) = SV.denL [SV.int IntKind.i64 (t12 (t) (0 : Nat)), SV.int IntKind.i64 (t12 (t) (1 : Nat)), SV.int IntKind.i64 (t12 (t) (2 : Nat)), SV.int IntKind.i64 (t12 (t) (3 : Nat)), SV.int IntKind.i64 (t12 (t) (4 : Nat)), SV.int IntKind.i64 (t12 (t) (5 : Nat)), SV.int IntKind.i64 (t12 (t) (6 : Nat)), SV.int IntKind.i64 (t12 (t) (7 : Nat)), SV.int IntKind.i64 (t12 (t) (8 : Nat)), SV.int IntKind.i64 (t12 (t) (9 : Nat)), SV.int IntKind.i64 (t12 (t) (10 : Nat)), SV.int
 IntKind.i64 (t12 (t) (11 : Nat))] ∧ (tt13) ∧ rE (↑ma : Int) ∧ wr = wr ∧ rE (fo (0 : Nat)) ∧ rE (fo (1 : Nat)) ∧ rE (fo (2 : Nat)) ∧ rE (fo (3 : Nat)) ∧ rE (fo (4 : Nat)) ∧ rE (fo (5 : Nat)) ∧ rE (fo (6 : Nat)) ∧ rE (fo (7 : Nat)) ∧ rE (fo (8 : Nat)) ∧ rE (fo (9 : Nat)) ∧ rE (fo (10 : Nat)) ∧ rE (fo (11 : Nat)) ∧ h.1 = h.1 ∧ (∀ (i : Nat), i < h.1 → rE ((SV.agg [SV.clo (Fn.func (57 : FuncId)) [] [SV.ipt [SV.bool true, i6 (h.su i), i6 (h.ca i)]], SV.clo (Fn.func (58 : FuncId)) [] [SV.ipt [SV.bool false, i6 (h.su i), i6 (h.ca i)]]]).den) ∧ (True ∧ (tt4) ∧ True) ∧ (True ∧ (tt4) ∧ True) ∧ True) ∧ rE (t (0 : Nat)) ∧ rE (t (1 : Nat)) ∧ rE (t (2 : Nat)) ∧ rE (t (3 : Nat)) ∧ rE (t (4 : Nat)) ∧ rE (t (5 : Nat)) ∧ rE (t (6 : Nat)) ∧ rE (t (7 : Nat)) ∧ rE (t (8 : Nat)) ∧ rE (t (9 : Nat)) ∧ rE (t (10 : Nat)) ∧ rE (t (11 : Nat)) ∧ (0 : Int) = (↑z : Int) ∧ True) ∧ (∀ (j : Nat), j < (susL (t12 (t12 (t)))
 wr (↑ma : Int).toNat).length → ∀ (z : Nat), z = j ∧ j ≤ (12 : Nat) → (0 : Nat) < (1 : Nat) ∧ rI ((↑z : Int) + (1 : Int)) ∧ ∃ (z_1 : Nat), (z_1 = j.succ ∧ j.succ ≤ (12 : Nat)) ∧ rE (↑ma : Int) ∧ wr = wr ∧ rE (fo (0 : Nat)) ∧ rE (fo (1 : Nat)) ∧ rE (fo (2 : Nat)) ∧ rE (fo (3 : Nat)) ∧ rE (fo (4 : Nat)) ∧ rE (fo (5 : Nat)) ∧ rE (fo (6 : Nat)) ∧ rE (fo (7 : Nat)) ∧ rE (fo (8 : Nat)) ∧ rE (fo (9 : Nat)) ∧ rE (fo (10 : Nat)) ∧ rE (fo (11 : Nat)) ∧ h.1 = h.1 ∧ (∀ (i : Nat), i < h.1 → rE ((SV.agg [SV.clo (Fn.func (57 : FuncId)) [] [SV.ipt [SV.bool true, i6 (h.su i), i6 (h.ca i)]], SV.clo (Fn.func (58 : FuncId)) [] [SV.ipt [SV.bool false, i6 (h.su i), i6 (h.ca i)]]]).den) ∧ (True ∧ (tt4) ∧ True) ∧ (True ∧ (tt4) ∧ True) ∧ True) ∧ rE (t (0 : Nat)) ∧ rE (t (1 : Nat)) ∧ rE (t (2 : Nat)) ∧ rE (t (3 : Nat)) ∧ rE (t (4 : Nat)) ∧ rE (t (5 : Nat)) ∧ rE (t (6 : Nat)) ∧ rE (t (7 : Nat)) ∧ rE (t (8 : Nat)) ∧
 rE (t (9 : Nat)) ∧ rE (t (10 : Nat)) ∧ rE (t (11 : Nat)) ∧ (↑z : Int) + (1 : Int) = (↑z_1 : Int) ∧ True) ∧ ∀ (z : Nat), z = (susL (t12 (t12 (t))) wr (↑ma : Int).toNat).length ∧ (susL (t12 (t12 (t))) wr (↑ma : Int).toNat).length ≤ (12 : Nat) → (0 : Nat) < (1 : Nat) ∧ (↑z : Int) = (↑(susL t wr ma).length : Int) ∧ True) := by kernel_rfl
theorem susG_vc (ma : Nat) (wr : Int) (fo : Nat → Int) (t : Nat → Int) (h : Cs) : susG ma wr fo t h = ((0 : Nat) < (1 : Nat) ∧ (0 : Nat) < (1 : Nat) ∧ (∀ (i : Nat), i < h.1 → (True ∧ (tt4) ∧ True) ∧ (True ∧ (tt4) ∧ True) ∧ True) ∧ (SV.lst (2 : Nat) h.n fun (k : Nat) => SV.agg [SV.clo (Fn.func (57 : FuncId)) [] [SV.ipt [SV.bool true, i6 (h.su k), i6 (h.ca k)]], SV.clo (Fn.func (58 : FuncId)) [] [SV.ipt [SV.bool false, i6 (h.su k), i6 (h.ca k)]]]) = hoV (hoOf h.n fun (k : Nat) => SV.agg [SV.clo (Fn.func (57 : FuncId)) [] [SV.ipt [SV.bool true, i6 (h.su k), i6 (h.ca k)]], SV.clo (Fn.func (58 : FuncId)) [] [SV.ipt [SV.bool false, i6 (h.su k), i6 (h.ca k)]]]) ∧ (∀ (i : Nat), i < h.1 → (True ∧ (tt4) ∧ True) ∧ (True ∧ (tt4) ∧ True) ∧ True) ∧ ((1 : Int) ≤ (↑ma : Int) ∧ (↑ma : Int) ≤ (12 : Int)) ∧ (SV.lst (2 : Nat) (hoOf h.n fun (k : Nat) => SV.agg [SV.clo (Fn.func (57 : FuncId)) [] [SV.ipt [SV.bool true, i6 (h.su k), i6 (h.ca k)]], SV.clo (Fn.func (58 : FuncId)) [] [SV.ipt [SV.bool false, i6
 (h.su k), i6 (h.ca k)]]]).n fun (k : Nat) => SV.agg [SV.clo (Fn.func (57 : FuncId)) [] [SV.ipt [SV.bool true, i6 ((hoOf h.n fun (k : Nat) => SV.agg [SV.clo (Fn.func (57 : FuncId)) [] [SV.ipt [SV.bool true, i6 (h.su k), i6 (h.ca k)]], SV.clo (Fn.func (58 : FuncId)) [] [SV.ipt [SV.bool false, i6 (h.su k), i6 (h.ca k)]]]).su k), i6 ((hoOf h.n fun (k : Nat) => SV.agg [SV.clo (Fn.func (57 : FuncId)) [] [SV.ipt [SV.bool true, i6 (h.su k), i6 (h.ca k)]], SV.clo (Fn.func (58 : FuncId)) [] [SV.ipt [SV.bool false, i6 (h.su k), i6 (h.ca k)]]]).ca k)]], SV.clo (Fn.func (58 : FuncId)) [] [SV.ipt [SV.bool false, i6 ((hoOf h.n fun (k : Nat) => SV.agg [SV.clo (Fn.func (57 : FuncId)) [] [SV.ipt [SV.bool true, i6 (h.su k), i6 (h.ca k)]], SV.clo (Fn.func (58 : FuncId)) [] [SV.ipt [SV.bool false, i6 (h.su k), i6 (h.ca k)]]]).su k), i6 ((hoOf h.n fun (k : Nat) => SV.agg [SV.clo (Fn.func (57 : FuncId)) []
 [SV.ipt [SV.bool true, i6 (h.su k), i6 (h.ca k)]], SV.clo (Fn.func (58 : FuncId)) [] [SV.ipt [SV.bool false, i6 (h.su k), i6 (h.ca k)]]]).ca k)]]]) = hoV (hoOf (hoOf h.n fun (k : Nat) => SV.agg [SV.clo (Fn.func (57 : FuncId)) [] [SV.ipt [SV.bool true, i6 (h.su k), i6 (h.ca k)]], SV.clo (Fn.func (58 : FuncId)) [] [SV.ipt [SV.bool false, i6 (h.su k), i6 (h.ca k)]]]).n fun (k : Nat) => SV.agg [SV.clo (Fn.func (57 : FuncId)) [] [SV.ipt [SV.bool true, i6 ((hoOf h.n fun (k : Nat) => SV.agg [SV.clo (Fn.func (57 : FuncId)) [] [SV.ipt [SV.bool true, i6 (h.su k), i6 (h.ca k)]], SV.clo (Fn.func (58 : FuncId)) [] [SV.ipt [SV.bool false, i6 (h.su k), i6 (h.ca k)]]]).su k), i6 ((hoOf h.n fun (k : Nat) => SV.agg [SV.clo (Fn.func (57 : FuncId)) [] [SV.ipt [SV.bool true, i6 (h.su k), i6 (h.ca k)]], SV.clo (Fn.func (58 : FuncId)) [] [SV.ipt [SV.bool false, i6 (h.su k), i6 (h.ca k)]]]).ca k)]], SV.clo
 (Fn.func (58 : FuncId)) [] [SV.ipt [SV.bool false, i6 ((hoOf h.n fun (k : Nat) => SV.agg [SV.clo (Fn.func (57 : FuncId)) [] [SV.ipt [SV.bool true, i6 (h.su k), i6 (h.ca k)]], SV.clo (Fn.func (58 : FuncId)) [] [SV.ipt [SV.bool false, i6 (h.su k), i6 (h.ca k)]]]).su k), i6 ((hoOf h.n fun (k : Nat) => SV.agg [SV.clo (Fn.func (57 : FuncId)) [] [SV.ipt [SV.bool true, i6 (h.su k), i6 (h.ca k)]], SV.clo (Fn.func (58 : FuncId)) [] [SV.ipt [SV.bool false, i6 (h.su k), i6 (h.ca k)]]]).ca k)]]]) ∧ ((True ∧ True ∧ True ∧ True ∧ True ∧ True ∧ True ∧ True ∧ True ∧ True ∧ True ∧ True ∧ True ∧ True ∧ (∀ (i : Nat), i < h.1 → (True ∧ (tt4) ∧ True) ∧ (True ∧ (tt4) ∧ True) ∧ True) ∧ True) ∧ (tt13) ∧ ∃ (z : Nat), (z = (0 : Nat) ∧ True) ∧ rE (0 : Nat) ∧ rE (0 : Nat) ∧ rE (0 : Nat) ∧ rE (0 : Nat) ∧ rE (0 : Nat) ∧ rE (0 : Nat) ∧ rE (Fn.func (59 : FuncId)) ∧ SV.denL (iqV (↑ma : Int) wr (t12 (fo)) (hoOf h.n fun
 (k : Nat) => SV.agg [SV.clo (Fn.func (57 : FuncId)) [] [SV.ipt [SV.bool true, i6 (h.su k), i6 (h.ca k)]], SV.clo (Fn.func (58 : FuncId)) [] [SV.ipt [SV.bool false, i6 (h.su k), i6 (h.ca k)]]])) = SV.denL [SV.int IntKind.i64 (↑ma : Int), SV.int IntKind.i64 wr, SV.int IntKind.i64 (t12 (fo) (0 : Nat)), SV.int IntKind.i64 (t12 (fo) (1 : Nat)), SV.int IntKind.i64 (t12 (fo) (2 : Nat)), SV.int IntKind.i64 (t12 (fo) (3 : Nat)), SV.int IntKind.i64 (t12 (fo) (4 : Nat)), SV.int IntKind.i64 (t12 (fo) (5 : Nat)), SV.int IntKind.i64 (t12 (fo) (6 : Nat)), SV.int IntKind.i64 (t12 (fo) (7 : Nat)), SV.int IntKind.i64 (t12 (fo) (8 : Nat)), SV.int IntKind.i64 (t12 (fo) (9 : Nat)), SV.int IntKind.i64 (t12 (fo) (10 : Nat)), SV.int IntKind.i64 (t12 (fo) (11 : Nat)), SV.lst (2 : Nat) (hoOf h.n fun (k : Nat) => SV.agg [SV.clo (Fn.func (57 : FuncId)) [] [SV.ipt [SV.bool true, i6 (h.su k), i6 (h.ca k)]], SV.clo
 (Fn.func (58 : FuncId)) [] [SV.ipt [SV.bool false, i6 (h.su k), i6 (h.ca k)]]]).n fun (k : Nat) => SV.agg [SV.clo (Fn.func (57 : FuncId)) [] [SV.ipt [SV.bool true, i6 ((hoOf h.n fun (k : Nat) => SV.agg [SV.clo (Fn.func (57 : FuncId)) [] [SV.ipt [SV.bool true, i6 (h.su k), i6 (h.ca k)]], SV.clo (Fn.func (58 : FuncId)) [] [SV.ipt [SV.bool false, i6 (h.su k), i6 (h.ca k)]]]).su k), i6 ((hoOf h.n fun (k : Nat) => SV.agg [SV.clo (Fn.func (57 : FuncId)) [] [SV.ipt [SV.bool true, i6 (h.su k), i6 (h.ca k)]], SV.clo (Fn.func (58 : FuncId)) [] [SV.ipt [SV.bool false, i6 (h.su k), i6 (h.ca k)]]]).ca k)]], SV.clo (Fn.func (58 : FuncId)) [] [SV.ipt [SV.bool false, i6 ((hoOf h.n fun (k : Nat) => SV.agg [SV.clo (Fn.func (57 : FuncId)) [] [SV.ipt [SV.bool true, i6 (h.su k), i6 (h.ca k)]], SV.clo (Fn.func (58 : FuncId)) [] [SV.ipt [SV.bool false, i6 (h.su k), i6 (h.ca k)]]]).su k), i6 ((hoOf h.n fun (k :
 Nat) => SV.agg [SV.clo (Fn.func (57 : FuncId)) [] [SV.ipt [SV.bool true, i6 (h.su k), i6 (h.ca k)]], SV.clo (Fn.func (58 : FuncId)) [] [SV.ipt [SV.bool false, i6 (h.su k), i6 (h.ca k)]]]).ca k)]]]] ∧ (True ∧ True ∧ True ∧ True ∧ True ∧ True ∧ True ∧ True ∧ True ∧ True ∧ True ∧ True ∧ True ∧ True ∧ (∀ (i : Nat), i < h.1 → (True ∧ (tt4) ∧ True) ∧ (True ∧ (tt4) ∧ True) ∧ True) ∧ True) ∧ SV.denL (cells' (T12 (t12 (t)))) = SV.denL [SV.int IntKind.i64 (t12 (t) (0 : Nat)), SV.int IntKind.i64 (t12 (t) (1 : Nat)), SV.int IntKind.i64 (t12 (t) (2 : Nat)), SV.int IntKind.i64 (t12 (t) (3 : Nat)), SV.int IntKind.i64 (t12 (t) (4 : Nat)), SV.int IntKind.i64 (t12 (t) (5 : Nat)), SV.int IntKind.i64 (t12 (t) (6 : Nat)), SV.int IntKind.i64 (t12 (t) (7 : Nat)), SV.int IntKind.i64 (t12 (t) (8 : Nat)), SV.int IntKind.i64 (t12 (t) (9 : Nat)), SV.int IntKind.i64 (t12 (t) (10 : Nat)), SV.int IntKind.i64 (t12 (t)
 (11 : Nat))] ∧ (tt13) ∧ rE (↑ma : Int) ∧ wr = wr ∧ rE (fo (0 : Nat)) ∧ rE (fo (1 : Nat)) ∧ rE (fo (2 : Nat)) ∧ rE (fo (3 : Nat)) ∧ rE (fo (4 : Nat)) ∧ rE (fo (5 : Nat)) ∧ rE (fo (6 : Nat)) ∧ rE (fo (7 : Nat)) ∧ rE (fo (8 : Nat)) ∧ rE (fo (9 : Nat)) ∧ rE (fo (10 : Nat)) ∧ rE (fo (11 : Nat)) ∧ h.1 = h.1 ∧ (∀ (i : Nat), i < h.1 → rE ((SV.agg [SV.clo (Fn.func (57 : FuncId)) [] [SV.ipt [SV.bool true, i6 (h.su i), i6 (h.ca i)]], SV.clo (Fn.func (58 : FuncId)) [] [SV.ipt [SV.bool false, i6 (h.su i), i6 (h.ca i)]]]).den) ∧ (True ∧ (tt4) ∧ True) ∧ (True ∧ (tt4) ∧ True) ∧ True) ∧ rE (t (0 : Nat)) ∧ rE (t (1 : Nat)) ∧ rE (t (2 : Nat)) ∧ rE (t (3 : Nat)) ∧ rE (t (4 : Nat)) ∧ rE (t (5 : Nat)) ∧ rE (t (6 : Nat)) ∧ rE (t (7 : Nat)) ∧ rE (t (8 : Nat)) ∧ rE (t (9 : Nat)) ∧ rE (t (10 : Nat)) ∧ rE (t (11 : Nat)) ∧ (0 : Int) = orN (susL t wr ma) z ∧ True) ∧ (∀ (j : Nat), j < (susL (t12 (t12 (t))) wr (↑ma :
 Int).toNat).length → ∀ (z : Nat), z = j ∧ True → (0 : Nat) < (1 : Nat) ∧ ∃ (z_1 : Nat), (z_1 = j.succ ∧ True) ∧ rE (↑ma : Int) ∧ wr = wr ∧ rE (fo (0 : Nat)) ∧ rE (fo (1 : Nat)) ∧ rE (fo (2 : Nat)) ∧ rE (fo (3 : Nat)) ∧ rE (fo (4 : Nat)) ∧ rE (fo (5 : Nat)) ∧ rE (fo (6 : Nat)) ∧ rE (fo (7 : Nat)) ∧ rE (fo (8 : Nat)) ∧ rE (fo (9 : Nat)) ∧ rE (fo (10 : Nat)) ∧ rE (fo (11 : Nat)) ∧ h.1 = h.1 ∧ (∀ (i : Nat), i < h.1 → rE ((SV.agg [SV.clo (Fn.func (57 : FuncId)) [] [SV.ipt [SV.bool true, i6 (h.su i), i6 (h.ca i)]], SV.clo (Fn.func (58 : FuncId)) [] [SV.ipt [SV.bool false, i6 (h.su i), i6 (h.ca i)]]]).den) ∧ (True ∧ (tt4) ∧ True) ∧ (True ∧ (tt4) ∧ True) ∧ True) ∧ rE (t (0 : Nat)) ∧ rE (t (1 : Nat)) ∧ rE (t (2 : Nat)) ∧ rE (t (3 : Nat)) ∧ rE (t (4 : Nat)) ∧ rE (t (5 : Nat)) ∧ rE (t (6 : Nat)) ∧ rE (t (7 : Nat)) ∧ rE (t (8 : Nat)) ∧ rE (t (9 : Nat)) ∧ rE (t (10 : Nat)) ∧ rE (t (11 : Nat)) ∧ bitO
 IntKind.i64 (orN (susL t wr ma) z) (shP (↑((susL (t12 (t12 (t))) wr (↑ma : Int).toNat).getD j (0 : Nat)) : Int)) = orN (susL t wr ma) z_1 ∧ True) ∧ ∀ (z : Nat), z = (susL (t12 (t12 (t))) wr (↑ma : Int).toNat).length ∧ True → (0 : Nat) < (1 : Nat) ∧ orN (susL t wr ma) z = orN (susL t wr ma) (susL t wr ma).length ∧ True) := by kernel_rfl
end Go.Proofs.Ytfjfnpknlkonnaa

set_option maxRecDepth 100000
namespace Go.Proofs.Ytfjfnpknlkonnaa
open Go Go.Lg
attribute [local irreducible] funS bodyH
theorem f12_f12 (t : Nat → Int) : (f12 (f12 (t 0) (t 1) (t 2) (t 3) (t 4) (t 5) (t 6) (t 7) (t 8) (t 9) (t 10) (t 11) 0) (f12 (t 0) (t 1) (t 2) (t 3) (t 4) (t 5) (t 6) (t 7) (t 8) (t 9) (t 10) (t 11) 1) (f12 (t 0) (t 1) (t 2) (t 3) (t 4) (t 5) (t 6) (t 7) (t 8) (t 9) (t 10) (t 11) 2) (f12 (t 0) (t 1) (t 2) (t 3) (t 4) (t 5) (t 6) (t 7) (t 8) (t 9) (t 10) (t 11) 3) (f12 (t 0) (t 1) (t 2) (t 3) (t 4) (t 5) (t 6) (t 7) (t 8) (t 9) (t 10) (t 11) 4) (f12 (t 0) (t 1) (t 2) (t 3) (t 4) (t 5) (t 6) (t 7) (t 8) (t 9) (t 10) (t 11) 5) (f12 (t 0) (t 1) (t 2) (t 3) (t 4) (t 5) (t 6) (t 7) (t 8) (t 9) (t 10) (t 11) 6) (f12 (t 0) (t 1) (t 2) (t 3) (t 4) (t 5) (t 6) (t 7) (t 8) (t 9) (t 10) (t 11) 7) (f12 (t 0) (t 1) (t 2) (t 3) (t 4) (t 5) (t 6) (t 7) (t 8) (t 9) (t 10) (t 11) 8) (f12 (t 0) (t 1) (t 2) (t 3) (t 4) (t 5) (t 6) (t 7) (t 8) (t 9) (t 10) (t 11) 9) (f12 (t 0) (t 1) (t 2) (t 3) (t 4) (t 5) (t 6) (t 7) (t 8) (t 9) (t 10) (t 11) 10) (f12 (t 0) (t 1) (t 2) (t 3) (t 4) (t 5) (t 6) (t 7) (t 8) (t 9) (t 10) (t 11) 11)) = f12 (t 0) (t 1) (t 2) (t 3) (t 4) (t 5) (t 6) (t 7) (t 8) (t 9) (t 10) (t 11) := rfl
open Classical in
theorem sus12 (t : Nat → Int) (wr : Int) {ma : Nat} (h : ma ≤ 12) : susL (f12 (t 0) (t 1) (t 2) (t 3) (t 4) (t 5) (t 6) (t 7) (t 8) (t 9) (t 10) (t 11)) wr ma = susL t wr ma := by
  unfold susL
  apply List.filter_congr
  intro i hi
  have : i < 12 := by have := List.mem_range.1 hi; omega
  rw [f12_at t this]
open Classical in
theorem sus_le (t : Nat → Int) (wr : Int) (ma : Nat) : (susL t wr ma).length ≤ ma := by
  have := List.length_filter_le (fun k => decide (t k ≤ wr)) (List.range ma)
  rw [List.length_range] at this
  exact this
theorem cnt_true {ma : Nat} {wr : Int} {fo t : Nat → Int} {h : Cs} (hm : 1 ≤ ma ∧ ma ≤ 12) : cntG ma wr fo t h := by
  have hl : (susL t wr ma).length ≤ 12 := by have := sus_le t wr ma; omega
  rw [cntG_vc]
  simp only [rI, rE, tt3, tt4, tt5, tt13, tt14, t12, and_true, true_and, Nat.zero_lt_one, Int.toNat_natCast, and_self, implies_true, f12_f12, sus12 t wr hm.2]
  refine ⟨rfl, by omega, rfl, ⟨0, ⟨rfl, by omega⟩, rfl, rfl, rfl⟩, fun j hj => ?_, ?_⟩
  · rintro z ⟨rfl, hz⟩
    exact ⟨by omega, z + 1, ⟨rfl, by omega⟩, by omega⟩
  · rintro z ⟨rfl, hz⟩
    rfl
theorem sus_true {ma : Nat} {wr : Int} {fo t : Nat → Int} {h : Cs} (hm : 1 ≤ ma ∧ ma ≤ 12) : susG ma wr fo t h := by
  rw [susG_vc]
  simp only [rI, rE, tt3, tt4, tt5, tt13, tt14, t12, and_true, true_and, Nat.zero_lt_one, Int.toNat_natCast, and_self, implies_true, f12_f12, sus12 t wr hm.2]
  refine ⟨rfl, by omega, rfl, ⟨0, rfl, rfl, rfl, rfl⟩, fun j hj => ?_, ?_⟩
  · rintro z rfl
    exact ⟨z + 1, rfl, rfl⟩
  · rintro z rfl
    rfl
theorem bts_true (ma wr : Int) (fo t : Nat → Int) (h : Cs) : bts49G ma wr fo t h := by
  rw [bts49G_vc]
  simp only [rI, rE, tt3, tt4, tt5, tt13, tt14, t12, Nat.zero_lt_one, and_self, implies_true]
theorem bts_does (ma wr : Int) (fo t : Nat → Int) (h : Cs) : Does Try.prog 49 false (SV.denL [.agg (iqV ma wr fo h), T12 t]) (SV.clo (.func 59) [] [.ipt (iqV ma wr fo h), .ipt (cells' (T12 t))]).den := by
  have hh := bts_true ma wr fo t h
  unfold bts49G at hh
  exact funH_does nilS_cs nilS_x nilS_ic mixed hh
theorem bits_ok : bitsC.OkF Try.prog := by
  refine ⟨by kernel_rfl, fun x k hk => ?_⟩
  simp only [bitsC] at hk
  split at hk
  · rename_i ma wr f0 f1 f2 f3 f4 f5 f6 f7 f8 f9 f10 f11 n f a0 a1 a2 a3 a4 a5 a6 a7 a8 a9 a10 a11
    obtain ⟨hf, hk⟩ := hk
    refine ⟨_, ?_, hk⟩
    rw [hf]
    exact bts_does ma wr (f12 f0 f1 f2 f3 f4 f5 f6 f7 f8 f9 f10 f11) (f12 a0 a1 a2 a3 a4 a5 a6 a7 a8 a9 a10 a11) (hoOf n f)
  · exact hk.elim
theorem csB_ok : SoundS Try.prog csB := ctrsF_sound nilS_cs (by intro x hx; simp at hx; subst hx; exact bits_ok)
theorem bitsI_ok : bitsI.Ok Try.prog := by
  refine ⟨by kernel_rfl, fun fs us k hk => ?_⟩
  simp only [bitsI] at hk
  split at hk
  · rename_i ma wr f0 f1 f2 f3 f4 f5 f6 f7 f8 f9 f10 f11 n f a0 a1 a2 a3 a4 a5 a6 a7 a8 a9 a10 a11
    obtain ⟨hm, hf, hk⟩ := hk
    refine ⟨_, _, _, ?_, ?_, hk⟩
    · have hh := bits_true (ma := ma.toNat) (wr := wr) (fo := f12 f0 f1 f2 f3 f4 f5 f6 f7 f8 f9 f10 f11) (t := f12 a0 a1 a2 a3 a4 a5 a6 a7 a8 a9 a10 a11) (h := hoOf n f) (by omega)
      unfold bitsG at hh
      rw [hf]
      have e : ((ma.toNat : Nat) : Int) = ma := by omega
      rw [e] at hh
      exact itH_ok nilS_cs (fun Γ γ _ => noX_sound) nilS_ic mixed hh
    · intro j hj; rfl
  · exact hk.elim
theorem icB_ok : SoundIH Try.prog (ictrs [bitsI]) := ictrs_sound (by intro x hx; simp at hx; subst hx; exact bitsI_ok)
theorem cnt_does {ma : Nat} {wr : Int} {fo t : Nat → Int} {h : Cs} (hm : 1 ≤ ma ∧ ma ≤ 12) : Does Try.prog 51 false (SV.denL [.agg (iqV ma wr fo h), T12 t]) (i6 (susL t wr ma).length).den := by
  have hh := cnt_true (wr := wr) (fo := fo) (t := t) (h := h) hm
  unfold cntG at hh
  exact funH_does csB_ok nilS_x icB_ok mixed hh
theorem sus_does {ma : Nat} {wr : Int} {fo t : Nat → Int} {h : Cs} (hm : 1 ≤ ma ∧ ma ≤ 12) : Does Try.prog 34 false (SV.denL [.agg (iqV ma wr fo h), T12 t]) (i6 (orN (susL t wr ma) (susL t wr ma).length)).den := by
  have hh := sus_true (wr := wr) (fo := fo) (t := t) (h := h) hm
  unfold susG at hh
  exact funH_does csB_ok nilS_x icB_ok mixed hh
end Go.Proofs.Ytfjfnpknlkonnaa
