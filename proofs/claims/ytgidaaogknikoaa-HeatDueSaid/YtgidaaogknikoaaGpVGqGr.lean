import Derived.Test.YtgidaaogknikoaaGjGkGl1Gp
set_option linter.unusedVariables false
set_option linter.unusedSimpArgs false
set_option maxRecDepth 100000
namespace Go.Proofs.Ytgidaaogknikoaa
open Go Go.Lg
noncomputable def hdT (d : De) (T : Tl) : Prop := (¬erW d T = (0 : Int) → false = true ∧ True) ∧ (¬¬erW d T = (0 : Int) → (0 : Nat) < (1 : Nat) ∧ (∀ (i : Nat), i < T.1 → True ∧ True ∧ True ∧ True ∧ True) ∧ rE T.sv ∧ T.1 ≤ (1000 : Nat) ∧ (¬erJ d T (woH d T) = (0 : Int) → false = true ∧ True) ∧ (¬¬erJ d T (woH d T) = (0 : Int) → (¬keI d T (woH d T) = woK d T → false = true ∧ True) ∧ (¬¬keI d T (woH d T) = woK d T → (∃ z, z ≤ T.1 ∧ T.1 = T.1 ∧ (∀ (i : Nat), i < T.1 → rE ((T.f i).sv.den) ∧ True ∧ True ∧ True ∧ True ∧ True) ∧ rE (0 : Nat) ∧ rE (0 : Nat) ∧ rE (woH d T) ∧ rE (woK d T) ∧ (0 : Int) = (↑z : Int) ∧ d.1 = d.1 ∧ d.2 = d.2 ∧ d.3 = d.3 ∧ d.4 = d.4 ∧ True) ∧ ∀ (z : Nat), z ≤ T.1 → ((↑z : Int) < (↑T.1 : Int) → (0 : Nat) < (1 : Nat) ∧ (0 : Int) ≤ (↑z : Int) ∧ (↑z : Int) < (↑T.1 : Int) ∧ (∀ (i : Nat), i < T.1 → True ∧ True ∧ True ∧ True ∧ True) ∧ rE T.sv ∧ T.1 ≤ (1000 : Nat) ∧ (¬erJ d T (T.f (↑z : Int).toNat).1 = (0 : Int) → false = true ∧ True) ∧ (¬¬erJ d T (T.f (↑z : Int).toNat).1 = (0 : Int) → (keI d T (T.f (↑z : Int).toNat).1 < woK d T → false = true ∧ True) ∧ (¬keI d T (T.f (↑z : Int).toNat).1 < woK d T → (keI d T (T.f (↑z : Int).toNat).1 = woK d T → (0 : Int) ≤ (↑z : Int) ∧ (↑z : Int) < (↑T.1 : Int) ∧ ((T.f (↑z : Int).toNat).1 < woH d T → false = true ∧ True) ∧ (¬(T.f (↑z : Int).toNat).1 < woH d T → rI ((↑z : Int) + (1 : Int)) ∧ ∃ z_1, z_1 ≤ T.1 ∧ T.1 - z_1 < T.1 - z ∧ T.1 = T.1 ∧ (∀ (i : Nat), i < T.1 → rE ((T.f i).sv.den) ∧ True ∧ True ∧ True ∧ True ∧ True) ∧ rE (0 : Nat) ∧ rE (0 : Nat) ∧ rE (woH d T) ∧ rE (woK d T) ∧ (↑z : Int) + (1 : Int) = (↑z_1 : Int) ∧ d.1 = d.1 ∧ d.2 = d.2 ∧ d.3 = d.3 ∧ d.4 = d.4 ∧ True)) ∧ (¬keI d T (T.f (↑z : Int).toNat).1 = woK d T → rI ((↑z : Int) + (1 : Int)) ∧ ∃ z_1, z_1 ≤ T.1 ∧ T.1 - z_1 < T.1 - z ∧ T.1 = T.1 ∧ (∀ (i : Nat), i < T.1 → rE ((T.f i).sv.den) ∧ True ∧ True ∧ True ∧ True ∧ True) ∧ rE (0 : Nat) ∧ rE (0 : Nat) ∧ rE (woH d T) ∧ rE (woK d T) ∧ (↑z : Int) + (1 : Int) = (↑z_1 : Int) ∧ d.1 = d.1 ∧ d.2 = d.2 ∧ d.3 = d.3 ∧ d.4 = d.4 ∧ True)))) ∧ (¬(↑z : Int) < (↑T.1 : Int) → rE true ∧ True))))
theorem hdG_vc (d : De) (T : Tl) (h : Int) (b : Bs) : hdG d T h b = (((36 : Int) < (↑T.1 : Int) → rE true ∧ True) ∧ (¬(36 : Int) < (↑T.1 : Int) → ((↑b.1 : Int) = (0 : Int) → rE true ∧ True) ∧ (¬(↑b.1 : Int) = (0 : Int) → (0 : Nat) < (1 : Nat) ∧ (∀ (i : Nat), i < T.1 → True ∧ True ∧ True ∧ True ∧ True) ∧ rE T.sv ∧ T.1 ≤ (1000 : Nat) ∧ (0 : Nat) < (1 : Nat) ∧ (∀ (i : Nat), i < T.1 → True ∧ True ∧ True ∧ True ∧ True) ∧ rE T.sv ∧ T.1 ≤ (1000 : Nat) ∧ (0 : Nat) < (1 : Nat) ∧ (∀ (i : Nat), i < T.1 → True ∧ True ∧ True ∧ True ∧ True) ∧ rE T.sv ∧ T.1 ≤ (1000 : Nat) ∧ (¬erJ d T h = (0 : Int) → (keI d T h = (0 : Int) → (0 : Nat) < (1 : Nat) ∧ (dL d T h = (0 : Int) ∧ dH d T h = (0 : Int) → (rE (erJ d T h) → (¬erJ d T h = (1 : Int) → (¬erJ d T h = (3 : Int) → rE true ∧ True) ∧ (¬¬erJ d T h = (3 : Int) → (erW d T = erJ d T h → (woH d T = (0 : Int) → (woK d T = (0 : Int) → rE true ∧ True) ∧ (¬woK d T = (0 : Int) → false = true ∧ True)) ∧ (¬woH d T = (0 : Int) → false = true ∧ True)) ∧ (¬erW d T = erJ d T h → false = true ∧ True))) ∧ (¬¬erJ d T h = (1 : Int) → (erW d T = erJ d T h → (woH d T = (0 : Int) → (woK d T = (0 : Int) → rE true ∧ True) ∧ (¬woK d T = (0 : Int) → false = true ∧ True)) ∧ (¬woH d T = (0 : Int) → false = true ∧ True)) ∧ (¬erW d T = erJ d T h → false = true ∧ True))) ∧ (¬erJ d T h = erJ d T h → false = true ∧ True)) ∧ (¬(dL d T h = (0 : Int) ∧ dH d T h = (0 : Int)) → false = true ∧ True)) ∧ (¬keI d T h = (0 : Int) → false = true ∧ True)) ∧ (¬¬erJ d T h = (0 : Int) → (¬erJ d T h = (0 : Int) → false = true ∧ True) ∧ (¬¬erJ d T h = (0 : Int) → (0 : Nat) < (1 : Nat) ∧ (¬okDe d → false = true ∧ True) ∧ (¬¬okDe d → (∀ (i : Nat), i < T.1 → True ∧ True ∧ True ∧ True ∧ True) ∧ rE T.sv ∧ T.1 ≤ (1000 : Nat) ∧ (¬okTl T → false = true ∧ True) ∧ (¬¬okTl T → (∃ (z : Nat), z ≤ T.1 ∧ T.1 = T.1 ∧ (∀ (i : Nat), i < T.1 → rE ((T.f i).sv.den) ∧ True ∧ True ∧ True ∧ True ∧ True) ∧ h = h ∧ b.1 = b.1 ∧ (∀ (i : Nat), i < b.1 → rE ((SV.int IntKind.u16 (b.f i)).den) ∧ True) ∧ rE (0 : Nat) ∧ rE (0 : Nat) ∧ rE (keI d T h) ∧ rE (0 : Nat) ∧ rE (0 : Nat) ∧ rE (woH d T) ∧ rE (woK d T) ∧ rE (erW d T) ∧ (0 : Int) = sT d T h b z ∧ (0 : Int) = sL d T h z ∧ (0 : Int) = sH d T h z ∧ (0 : Int) = (↑(fiN (wP d T h) z) : Int) ∧ (0 : Int) = (↑z : Int) ∧ d.1 = d.1 ∧ d.2 = d.2 ∧ d.3 = d.3 ∧ d.4 = d.4 ∧ rE (dL d T h) ∧ rE (dH d T h) ∧ True) ∧ ∀ (z : Nat), z ≤ T.1 → ((↑z : Int) < (↑T.1 : Int) → (0 : Int) ≤ (↑z : Int) ∧ (↑z : Int) < (↑T.1 : Int) ∧ (0 : Nat) < (1 : Nat) ∧ (0 : Nat) < (1 : Nat) ∧ rI (h - d.1) ∧ ((T.f (↑z : Int).toNat).1 ≤ h - d.1 → rI ((↑z : Int) + (1 : Int)) ∧ ∃ (z_1 : Nat), z_1 ≤ T.1 ∧ T.1 - z_1 < T.1 - z ∧ T.1 = T.1 ∧ (∀ (i : Nat), i < T.1 → rE ((T.f i).sv.den) ∧ True ∧ True ∧ True ∧ True ∧ True) ∧ h = h ∧ b.1 = b.1 ∧ (∀ (i : Nat), i < b.1 → rE ((SV.int IntKind.u16 (b.f i)).den) ∧ True) ∧ rE (0 : Nat) ∧ rE (0 : Nat) ∧ rE (keI d T h) ∧ rE (0 : Nat) ∧ rE (0 : Nat) ∧ rE (woH d T) ∧ rE (woK d T) ∧ rE (erW d T) ∧ sT d T h b z = sT d T h b z_1 ∧ sL d T h z = sL d T h z_1 ∧ sH d T h z = sH d T h z_1 ∧ (↑(fiN (wP d T h) z) : Int) = (↑(fiN (wP d T h) z_1) : Int) ∧ (↑z : Int) + (1 : Int) = (↑z_1 : Int) ∧ d.1 = d.1 ∧ d.2 = d.2 ∧ d.3 = d.3 ∧ d.4 = d.4 ∧ rE (dL d T h) ∧ rE (dH d T h) ∧ True) ∧ (¬(T.f (↑z : Int).toNat).1 ≤ h - d.1 → (0 : Nat) < (1 : Nat) ∧ (h < (T.f (↑z : Int).toNat).1 → rI ((↑z : Int) + (1 : Int)) ∧ ∃ (z_1 : Nat), z_1 ≤ T.1 ∧ T.1 - z_1 < T.1 - z ∧ T.1 = T.1 ∧ (∀ (i : Nat), i < T.1 → rE ((T.f i).sv.den) ∧ True ∧ True ∧ True ∧ True ∧ True) ∧ h = h ∧ b.1 = b.1 ∧ (∀ (i : Nat), i < b.1 → rE ((SV.int IntKind.u16 (b.f i)).den) ∧ True) ∧ rE (0 : Nat) ∧ rE (0 : Nat) ∧ rE (keI d T h) ∧ rE (0 : Nat) ∧ rE (0 : Nat) ∧ rE (woH d T) ∧ rE (woK d T) ∧ rE (erW d T) ∧ sT d T h b z = sT d T h b z_1 ∧ sL d T h z = sL d T h z_1 ∧ sH d T h z = sH d T h z_1 ∧ (↑(fiN (wP d T h) z) : Int) = (↑(fiN (wP d T h) z_1) : Int) ∧ (↑z : Int) + (1 : Int) = (↑z_1 : Int) ∧ d.1 = d.1 ∧ d.2 = d.2 ∧ d.3 = d.3 ∧ d.4 = d.4 ∧ rE (dL d T h) ∧ rE (dH d T h) ∧ True) ∧ (¬h < (T.f (↑z : Int).toNat).1 → (0 : Nat) < (1 : Nat) ∧ rI (sT d T h b z + (T.f (↑z : Int).toNat).3) ∧ ((↑b.1 : Int) = (0 : Int) → False) ∧ (0 : Int) ≤ (↑z : Int).tmod (↑b.1 : Int) ∧ (↑z : Int).tmod (↑b.1 : Int) < (↑b.1 : Int) ∧ rI (b.2 ((↑z : Int).tmod (↑b.n : Int)).toNat) ∧ (0 : Nat) < (1 : Nat) ∧ (0 : Nat) < (1 : Nat) ∧ rI ((T.f (↑z : Int).toNat).4 - (T.f (↑z : Int).toNat).3) ∧ rI ((T.f (↑z : Int).toNat).4 - (T.f (↑z : Int).toNat).3 + (1 : Int)) ∧ ((T.f (↑z : Int).toNat).4 - (T.f (↑z : Int).toNat).3 + (1 : Int) = (0 : Int) → False) ∧ rI (sT d T h b z + (T.f (↑z : Int).toNat).3 + (b.2 ((↑z : Int).tmod (↑b.n : Int)).toNat).tmod ((T.f (↑z : Int).toNat).4 - (T.f (↑z : Int).toNat).3 + (1 : Int))) ∧ (0 : Nat) < (1 : Nat) ∧ rI (sL d T h z + (T.f (↑z : Int).toNat).3) ∧ (0 : Nat) < (1 : Nat) ∧ rI (sH d T h z + (T.f (↑z : Int).toNat).4) ∧ rI ((↑(fiN (wP d T h) z) : Int) + (1 : Int)) ∧ rI ((↑z : Int) + (1 : Int)) ∧ ∃ z_1, z_1 ≤ T.1 ∧ T.1 - z_1 < T.1 - z ∧ T.1 = T.1 ∧ (∀ (i : Nat), i < T.1 → rE ((T.f i).sv.den) ∧ True ∧ True ∧ True ∧ True ∧ True) ∧ h = h ∧ b.1 = b.1 ∧ (∀ (i : Nat), i < b.1 → rE ((SV.int IntKind.u16 (b.f i)).den) ∧ True) ∧ rE (0 : Nat) ∧ rE (0 : Nat) ∧ rE (keI d T h) ∧ rE (0 : Nat) ∧ rE (0 : Nat) ∧ rE (woH d T) ∧ rE (woK d T) ∧ rE (erW d T) ∧ sT d T h b z + (T.f (↑z : Int).toNat).3 + (b.2 ((↑z : Int).tmod (↑b.n : Int)).toNat).tmod ((T.f (↑z : Int).toNat).4 - (T.f (↑z : Int).toNat).3 + (1 : Int)) = sT d T h b z_1 ∧ sL d T h z + (T.f (↑z : Int).toNat).3 = sL d T h z_1 ∧ sH d T h z + (T.f (↑z : Int).toNat).4 = sH d T h z_1 ∧ (↑(fiN (wP d T h) z) : Int) + (1 : Int) = (↑(fiN (wP d T h) z_1) : Int) ∧ (↑z : Int) + (1 : Int) = (↑z_1 : Int) ∧ d.1 = d.1 ∧ d.2 = d.2 ∧ d.3 = d.3 ∧ d.4 = d.4 ∧ rE (dL d T h) ∧ rE (dH d T h) ∧ True))) ∧ (¬(↑z : Int) < (↑T.1 : Int) → (0 : Nat) < (1 : Nat) ∧ (0 : Nat) < (1 : Nat) ∧ rI (d.2 - d.3) ∧ rI ((↑(fiN (wP d T h) z) : Int) * (d.2 - d.3)) ∧ (0 : Nat) < (1 : Nat) ∧ rI ((↑(fiN (wP d T h) z) : Int) * (d.2 - d.3) - sT d T h b z) ∧ ((0 : Int) ≤ d.4 ∧ d.4 ≤ (1000000 : Int)) ∧ (↑(fiN (wP d T h) z) : Int) * (d.2 - d.3) - sT d T h b z ≤ (100000000 : Int) ∧ ((0 : Int) < (↑(fiN (wP d T h) z) : Int) * (d.2 - d.3) - sT d T h b z → (1 : Int) ≤ (↑(fiN (wP d T h) z) : Int) ∧ (↑(fiN (wP d T h) z) : Int) ≤ (1000 : Int)) ∧ ((↑(fiN (wP d T h) z) : Int) = (0 : Int) → false = true ∧ True) ∧ (¬(↑(fiN (wP d T h) z) : Int) = (0 : Int) → (0 : Nat) < (1 : Nat) ∧ (payI d.4 ((↑(fiN (wP d T h) z) : Int) * (d.2 - d.3) - sT d T h b z) (↑(fiN (wP d T h) z) : Int) < dL d T h → false = true ∧ True) ∧ (¬payI d.4 ((↑(fiN (wP d T h) z) : Int) * (d.2 - d.3) - sT d T h b z) (↑(fiN (wP d T h) z) : Int) < dL d T h → (0 : Nat) < (1 : Nat) ∧ (dH d T h < payI d.4 ((↑(fiN (wP d T h) z) : Int) * (d.2 - d.3) - sT d T h b z) (↑(fiN (wP d T h) z) : Int) → false = true ∧ True) ∧ (¬dH d T h < payI d.4 ((↑(fiN (wP d T h) z) : Int) * (d.2 - d.3) - sT d T h b z) (↑(fiN (wP d T h) z) : Int) → (0 : Nat) < (1 : Nat) ∧ (0 : Nat) < (1 : Nat) ∧ rI ((↑(fiN (wP d T h) z) : Int) * (d.2 - d.3) - sH d T h z) ∧ ((0 : Int) ≤ d.4 ∧ d.4 ≤ (1000000 : Int)) ∧ (↑(fiN (wP d T h) z) : Int) * (d.2 - d.3) - sH d T h z ≤ (100000000 : Int) ∧ ((0 : Int) < (↑(fiN (wP d T h) z) : Int) * (d.2 - d.3) - sH d T h z → (1 : Int) ≤ (↑(fiN (wP d T h) z) : Int) ∧ (↑(fiN (wP d T h) z) : Int) ≤ (1000 : Int)) ∧ (¬dL d T h = payI d.4 ((↑(fiN (wP d T h) z) : Int) * (d.2 - d.3) - sH d T h z) (↑(fiN (wP d T h) z) : Int) → false = true ∧ True) ∧ (¬¬dL d T h = payI d.4 ((↑(fiN (wP d T h) z) : Int) * (d.2 - d.3) - sH d T h z) (↑(fiN (wP d T h) z) : Int) → (0 : Nat) < (1 : Nat) ∧ (0 : Nat) < (1 : Nat) ∧ rI ((↑(fiN (wP d T h) z) : Int) * (d.2 - d.3) - sL d T h z) ∧ ((0 : Int) ≤ d.4 ∧ d.4 ≤ (1000000 : Int)) ∧ (↑(fiN (wP d T h) z) : Int) * (d.2 - d.3) - sL d T h z ≤ (100000000 : Int) ∧ ((0 : Int) < (↑(fiN (wP d T h) z) : Int) * (d.2 - d.3) - sL d T h z → (1 : Int) ≤ (↑(fiN (wP d T h) z) : Int) ∧ (↑(fiN (wP d T h) z) : Int) ≤ (1000 : Int)) ∧ (¬dH d T h = payI d.4 ((↑(fiN (wP d T h) z) : Int) * (d.2 - d.3) - sL d T h z) (↑(fiN (wP d T h) z) : Int) → false = true ∧ True) ∧ (¬¬dH d T h = payI d.4 ((↑(fiN (wP d T h) z) : Int) * (d.2 - d.3) - sL d T h z) (↑(fiN (wP d T h) z) : Int) → (keI d T h = (2 : Int) → (sT d T h b z < (↑(fiN (wP d T h) z) : Int) * (d.2 - d.3) → false = true ∧ True) ∧ (¬sT d T h b z < (↑(fiN (wP d T h) z) : Int) * (d.2 - d.3) → (0 : Nat) < (1 : Nat) ∧ (¬dH d T h = (0 : Int) → false = true ∧ True) ∧ (¬¬dH d T h = (0 : Int) → (keI d T h = (0 : Int) → ((↑(fiN (wP d T h) z) : Int) * (d.2 - d.3) ≤ sT d T h b z → false = true ∧ True) ∧ (¬(↑(fiN (wP d T h) z) : Int) * (d.2 - d.3) ≤ sT d T h b z → (0 : Nat) < (1 : Nat) ∧ (dL d T h = (0 : Int) → (0 : Nat) < (1 : Nat) ∧ ((0 : Int) < d.4 → false = true ∧ True) ∧ (¬(0 : Int) < d.4 → (keI d T h = (1 : Int) → ((↑(fiN (wP d T h) z) : Int) * (d.2 - d.3) ≤ sL d T h z → false = true ∧ True) ∧ (¬(↑(fiN (wP d T h) z) : Int) * (d.2 - d.3) ≤ sL d T h z → (sH d T h z < (↑(fiN (wP d T h) z) : Int) * (d.2 - d.3) → false = true ∧ True) ∧ (¬sH d T h z < (↑(fiN (wP d T h) z) : Int) * (d.2 - d.3) → (keI d T h < (0 : Int) → false = true ∧ True) ∧ (¬keI d T h < (0 : Int) → ((2 : Int) < keI d T h → false = true ∧ True) ∧ (¬(2 : Int) < keI d T h → hdT d T))))) ∧ (¬keI d T h = (1 : Int) → (keI d T h < (0 : Int) → false = true ∧ True) ∧ (¬keI d T h < (0 : Int) → ((2 : Int) < keI d T h → false = true ∧ True) ∧ (¬(2 : Int) < keI d T h → hdT d T))))) ∧ (¬dL d T h = (0 : Int) → (keI d T h = (1 : Int) → ((↑(fiN (wP d T h) z) : Int) * (d.2 - d.3) ≤ sL d T h z → false = true ∧ True) ∧ (¬(↑(fiN (wP d T h) z) : Int) * (d.2 - d.3) ≤ sL d T h z → (sH d T h z < (↑(fiN (wP d T h) z) : Int) * (d.2 - d.3) → false = true ∧ True) ∧ (¬sH d T h z < (↑(fiN (wP d T h) z) : Int) * (d.2 - d.3) → (keI d T h < (0 : Int) → false = true ∧ True) ∧ (¬keI d T h < (0 : Int) → ((2 : Int) < keI d T h → false = true ∧ True) ∧ (¬(2 : Int) < keI d T h → hdT d T))))) ∧ (¬keI d T h = (1 : Int) → (keI d T h < (0 : Int) → false = true ∧ True) ∧ (¬keI d T h < (0 : Int) → ((2 : Int) < keI d T h → false = true ∧ True) ∧ (¬(2 : Int) < keI d T h → hdT d T)))))) ∧ (¬keI d T h = (0 : Int) → (keI d T h = (1 : Int) → ((↑(fiN (wP d T h) z) : Int) * (d.2 - d.3) ≤ sL d T h z → false = true ∧ True) ∧ (¬(↑(fiN (wP d T h) z) : Int) * (d.2 - d.3) ≤ sL d T h z → (sH d T h z < (↑(fiN (wP d T h) z) : Int) * (d.2 - d.3) → false = true ∧ True) ∧ (¬sH d T h z < (↑(fiN (wP d T h) z) : Int) * (d.2 - d.3) → (keI d T h < (0 : Int) → false = true ∧ True) ∧ (¬keI d T h < (0 : Int) → ((2 : Int) < keI d T h → false = true ∧ True) ∧ (¬(2 : Int) < keI d T h → hdT d T))))) ∧ (¬keI d T h = (1 : Int) → (keI d T h < (0 : Int) → false = true ∧ True) ∧ (¬keI d T h < (0 : Int) → ((2 : Int) < keI d T h → false = true ∧ True) ∧ (¬(2 : Int) < keI d T h → hdT d T))))))) ∧ (¬keI d T h = (2 : Int) → (keI d T h = (0 : Int) → ((↑(fiN (wP d T h) z) : Int) * (d.2 - d.3) ≤ sT d T h b z → false = true ∧ True) ∧ (¬(↑(fiN (wP d T h) z) : Int) * (d.2 - d.3) ≤ sT d T h b z → (0 : Nat) < (1 : Nat) ∧ (dL d T h = (0 : Int) → (0 : Nat) < (1 : Nat) ∧ ((0 : Int) < d.4 → false = true ∧ True) ∧ (¬(0 : Int) < d.4 → (keI d T h = (1 : Int) → ((↑(fiN (wP d T h) z) : Int) * (d.2 - d.3) ≤ sL d T h z → false = true ∧ True) ∧ (¬(↑(fiN (wP d T h) z) : Int) * (d.2 - d.3) ≤ sL d T h z → (sH d T h z < (↑(fiN (wP d T h) z) : Int) * (d.2 - d.3) → false = true ∧ True) ∧ (¬sH d T h z < (↑(fiN (wP d T h) z) : Int) * (d.2 - d.3) → (keI d T h < (0 : Int) → false = true ∧ True) ∧ (¬keI d T h < (0 : Int) → ((2 : Int) < keI d T h → false = true ∧ True) ∧ (¬(2 : Int) < keI d T h → hdT d T))))) ∧ (¬keI d T h = (1 : Int) → (keI d T h < (0 : Int) → false = true ∧ True) ∧ (¬keI d T h < (0 : Int) → ((2 : Int) < keI d T h → false = true ∧ True) ∧ (¬(2 : Int) < keI d T h → hdT d T))))) ∧ (¬dL d T h = (0 : Int) → (keI d T h = (1 : Int) → ((↑(fiN (wP d T h) z) : Int) * (d.2 - d.3) ≤ sL d T h z → false = true ∧ True) ∧ (¬(↑(fiN (wP d T h) z) : Int) * (d.2 - d.3) ≤ sL d T h z → (sH d T h z < (↑(fiN (wP d T h) z) : Int) * (d.2 - d.3) → false = true ∧ True) ∧ (¬sH d T h z < (↑(fiN (wP d T h) z) : Int) * (d.2 - d.3) → (keI d T h < (0 : Int) → false = true ∧ True) ∧ (¬keI d T h < (0 : Int) → ((2 : Int) < keI d T h → false = true ∧ True) ∧ (¬(2 : Int) < keI d T h → hdT d T))))) ∧ (¬keI d T h = (1 : Int) → (keI d T h < (0 : Int) → false = true ∧ True) ∧ (¬keI d T h < (0 : Int) → ((2 : Int) < keI d T h → false = true ∧ True) ∧ (¬(2 : Int) < keI d T h → hdT d T)))))) ∧ (¬keI d T h = (0 : Int) → (keI d T h = (1 : Int) → ((↑(fiN (wP d T h) z) : Int) * (d.2 - d.3) ≤ sL d T h z → false = true ∧ True) ∧ (¬(↑(fiN (wP d T h) z) : Int) * (d.2 - d.3) ≤ sL d T h z → (sH d T h z < (↑(fiN (wP d T h) z) : Int) * (d.2 - d.3) → false = true ∧ True) ∧ (¬sH d T h z < (↑(fiN (wP d T h) z) : Int) * (d.2 - d.3) → (keI d T h < (0 : Int) → false = true ∧ True) ∧ (¬keI d T h < (0 : Int) → ((2 : Int) < keI d T h → false = true ∧ True) ∧ (¬(2 : Int) < keI d T h → hdT d T))))) ∧ (¬keI d T h = (1 : Int) → (keI d T h < (0 : Int) → false = true ∧ True) ∧ (¬keI d T h < (0 : Int) → ((2 : Int) < keI d T h → false = true ∧ True) ∧ (¬(2 : Int) < keI d T h → hdT d T)))))))))))))))))) := by kernel_rfl
end Go.Proofs.Ytgidaaogknikoaa 

set_option maxRecDepth 100000
namespace Go.Proofs.Ytgidaaogknikoaa
open Go Go.Lg
attribute [local irreducible] funS bodyH
theorem sumW_yes {p : Nat → Prop} {g : Nat → Int} {m : Nat} (h : p m) : sumW p g (m + 1) = sumW p g m + g m := by simp only [sumW]; rw [if_pos h]
theorem sumW_no {p : Nat → Prop} {g : Nat → Int} {m : Nat} (h : ¬ p m) : sumW p g (m + 1) = sumW p g m := by simp only [sumW]; rw [if_neg h]
theorem sumW_le {p : Nat → Prop} {g g' : Nat → Int} : ∀ {m : Nat}, (∀ k, k < m → p k → g k ≤ g' k) → sumW p g m ≤ sumW p g' m
  | 0, _ => Int.le_refl _
  | m + 1, h => by
    have ih := sumW_le (p := p) (g := g) (g' := g') (m := m) fun k hk => h k (by omega)
    by_cases hp : p m
    · rw [sumW_yes hp, sumW_yes hp]
      have := h m (by omega) hp
      omega
    · rw [sumW_no hp, sumW_no hp]; exact ih
theorem sumW_bd {p : Nat → Prop} {g : Nat → Int} {B : Int} (hB : 0 ≤ B) : ∀ {m : Nat}, (∀ k, k < m → p k → 0 ≤ g k ∧ g k ≤ B) → 0 ≤ sumW p g m ∧ sumW p g m ≤ m * B
  | 0, _ => by simp [sumW]
  | m + 1, h => by
    have ih := sumW_bd (p := p) (g := g) hB (m := m) fun k hk => h k (by omega)
    have e : ((m + 1 : Nat) : Int) * B = m * B + B := by push_cast; rw [Int.add_mul, Int.one_mul]
    rw [e]
    by_cases hp : p m
    · rw [sumW_yes hp]
      have := h m (by omega) hp
      omega
    · rw [sumW_no hp]; omega
theorem sumW_J {T : Tl} {h p : Int} (f : Tst → Int) : ∀ {m : Nat}, m ≤ T.n → sumW (fun k => inW (T.f k) h p) (fun k => f (T.f k)) m = sumJ (fun j => f (winT T h p j)) (fiN (fun k => inW (T.f k) h p) m)
  | 0, _ => rfl
  | m + 1, hm => by
    have ih := sumW_J (T := T) (h := h) (p := p) f (m := m) (by omega)
    by_cases hw : inW (T.f m) h p
    · rw [sumW_yes (p := fun k => inW (T.f k) h p) hw, fiN_yes (p := fun k => inW (T.f k) h p) hw]
      simp only [sumJ]
      rw [(win_get hw (by omega)).2, ih]
    · rw [sumW_no (p := fun k => inW (T.f k) h p) hw, fiN_no (p := fun k => inW (T.f k) h p) hw, ih]
theorem pay_mono {p a b n : Int} (hp : 0 ≤ p) (hn : 1 ≤ n) (h : a ≤ b) : payI p a n ≤ payI p b n := by
  have key : ∀ x : Int, 0 < x → 0 ≤ x * p + n - 1 := fun x hx => by
    have := Int.mul_nonneg (by omega : 0 ≤ x) hp
    omega
  unfold payI
  by_cases h1 : a ≤ 0
  · rw [if_pos h1]
    by_cases h2 : b ≤ 0
    · rw [if_pos h2]; exact Int.le_refl _
    · rw [if_neg h2]
      exact (tdiv_bd (key b (by omega)) hn).1
  · rw [if_neg h1, if_neg (by omega)]
    rw [Int.tdiv_eq_ediv_of_nonneg (key a (by omega)), Int.tdiv_eq_ediv_of_nonneg (key b (by omega))]
    have := Int.mul_le_mul_of_nonneg_right h hp
    exact Int.ediv_le_ediv (by omega) (by omega)
theorem pay_pos {p a n : Int} (hp : 0 < p) (hn : 1 ≤ n) (h : 0 < a) : 0 < payI p a n := by
  have h1 := Int.mul_pos h hp
  unfold payI
  rw [if_neg (by omega), Int.tdiv_eq_ediv_of_nonneg (by omega)]
  exact Int.lt_of_lt_of_le (by omega) (Int.le_ediv_of_mul_le (by omega) (by omega : 1 * n ≤ a * p + n - 1))
theorem tmod_bd {a b : Int} (ha : 0 ≤ a) (hb : 0 < b) : 0 ≤ a.tmod b ∧ a.tmod b < b := ⟨Int.tmod_nonneg b ha, Int.tmod_lt_of_pos a hb⟩
theorem tz_bd {T : Tl} {b : Bs} {i : Nat} (ht : okTs (T.f i)) (hb : okBs b) : (T.f i).lo ≤ tzI T b i ∧ tzI T b i ≤ (T.f i).hi := by
  have s := ht.sp
  have s1 := s.b
  have f := hb.f (i % b.n) (Nat.mod_lt _ (by have := hb.n; omega))
  have := tmod_bd f.1 (by omega : 0 < (T.f i).hi - (T.f i).lo + 1)
  unfold tzI
  omega
theorem modN {z n : Nat} : ((z : Int).tmod (n : Int)) = ((z % n : Nat) : Int) := (Int.ofNat_tmod z n).symm
theorem ver_er {d : De} {T : Tl} {i : Nat} (h : erA d T = 0) (hi : i < T.n) : erJ d T (T.f i).h = 0 := by
  obtain ⟨k1, k2, k3⟩ := erA_ok h
  have t := k2 i hi
  have w0 := k3.w0
  have g := (win_get (T := T) (h := (T.f i).h) (p := d.w) (z := i) ⟨by omega, Int.le_refl _⟩ hi).1
  rw [erJ, if_pos h, if_pos ⟨t.h0, t.h1⟩, if_neg (by omega)]
theorem wo_facts {d : De} {T : Tl} (h : erA d T = 0) (hn : 0 < T.n) : erW d T = 0 ∧ (∃ i, i < T.n ∧ woH d T = (T.f i).h ∧ woK d T = keI d T (T.f i).h) ∧ ∀ j, j < T.n → ¬ keI d T (T.f j).h < woK d T ∧ (keI d T (T.f j).h = woK d T → ¬ (T.f j).h < woH d T) := by
  have e : erW d T = 0 := by rw [erW, if_pos h, if_neg (by omega)]
  obtain ⟨⟨i, hi, h1⟩, h2⟩ := least_min (v := verK d T) hn
  have eH : woH d T = (leastJ (verK d T) T.n).2 := by rw [woH, if_pos e]
  have eK : woK d T = (leastJ (verK d T) T.n).1 := by rw [woK, if_pos e]
  refine ⟨e, ⟨i, hi, by rw [eH, h1]; rfl, by rw [eK, h1, ver_ke h hi]⟩, fun j hj => ?_⟩
  have := h2 j hj
  rw [eH, eK, ver_ke h hj]
  have e2 : (T.f j).h = (verK d T j).2 := rfl
  rw [e2]
  exact ⟨fun x => this (.inl x), fun x y => this (.inr ⟨x, y⟩)⟩
theorem hdT_true {d : De} {T : Tl} (h : erA d T = 0) (hn : 0 < T.n) (hn2 : T.n ≤ 1000) : hdT d T := by
  obtain ⟨e, ⟨i, hi, h1, h2⟩, h3⟩ := wo_facts h hn
  have e1 := ver_er h hi
  unfold hdT
  simp only [rI, rE, tt3, tt4, tt5, tt13, tt14, and_true, true_and, Nat.zero_lt_one, implies_true, and_self, Classical.not_not, Int.toNat_natCast, Bool.false_eq_true]
  refine ⟨fun x => x e, fun _ => ⟨hn2, fun x => x (by rw [h1]; exact e1), fun _ => ⟨fun x => x (by rw [h1, h2]), fun _ => ⟨⟨0, by omega, rfl⟩, fun z hz hl => ?_⟩⟩⟩⟩
  have e2 := ver_er h (by omega : z < T.n)
  have e3 := h3 z (by omega)
  exact ⟨by omega, hl, hn2, fun x => x e2, fun _ => ⟨e3.1, fun _ => ⟨fun x => ⟨by omega, hl, e3.2 x, fun _ => ⟨by omega, z + 1, by omega, by omega, by omega⟩⟩, fun _ => ⟨by omega, z + 1, by omega, by omega, by omega⟩⟩⟩⟩
end Go.Proofs.Ytgidaaogknikoaa

set_option maxRecDepth 100000
namespace Go.Proofs.Ytgidaaogknikoaa
open Go Go.Lg
attribute [local irreducible] funS bodyH
theorem erJ_cases {d : De} {T : Tl} {h : Int} (he : ¬ erJ d T h = 0) (h13 : erJ d T h = 1 ∨ erJ d T h = 3) : erW d T = erJ d T h ∧ woH d T = 0 ∧ woK d T = 0 := by
  have ha : ¬ erA d T = 0 := fun ha => by
    unfold erJ at he h13
    rw [if_pos ha] at he h13
    split at h13
    · split at h13 <;> omega
    · omega
  have e1 := erJ_a (h := h) ha
  have e2 : erW d T = erA d T := by rw [erW, if_neg ha]
  exact ⟨by rw [e1, e2], by rw [woH, if_neg (by rw [e2]; exact ha)], by rw [woK, if_neg (by rw [e2]; exact ha)]⟩
structure duF (d : De) (T : Tl) (h : Int) (b : Bs) (N M t l g : Int) : Prop where
  N1 : 1 ≤ N
  N2 : N ≤ 36
  M0 : 0 ≤ M
  M1 : M ≤ 360000
  tl : l ≤ t
  tg : t ≤ g
  l0 : 0 ≤ l
  g1 : g ≤ 360000
  p0 : 0 ≤ d.pay
  p1 : d.pay ≤ 1000000
  a1 : dL d T h ≤ payI d.pay (M - t) N
  a2 : payI d.pay (M - t) N ≤ dH d T h
  a3 : dL d T h = payI d.pay (M - g) N
  a4 : dH d T h = payI d.pay (M - l) N
  k0 : 0 ≤ keI d T h
  k1 : keI d T h ≤ 2
  k2 : keI d T h = 2 → M ≤ l ∧ dH d T h = 0
  k3 : keI d T h = 0 → g < M ∧ (0 < d.pay → 0 < dL d T h)
  k4 : keI d T h = 1 → l < M ∧ M ≤ g
theorem du_facts {d : De} {T : Tl} {h : Int} {b : Bs} (he : erJ d T h = 0) (hb : okBs b) : duF d T h b (fiN (wP d T h) T.n : Nat) ((fiN (wP d T h) T.n : Nat) * (d.d - d.sl)) (sT d T h b T.n) (sL d T h T.n) (sH d T h T.n) := by
  obtain ⟨a1, a2, a3⟩ := erJ_ok he
  obtain ⟨c1, c2, c3⟩ := erA_ok a1
  have eN : fiN (wP d T h) T.n = winN T h d.w := rfl
  have eL : sL d T h T.n = (ocL d T h).sum := sumW_J (fun t => t.lo) (Nat.le_refl _)
  have eH : sH d T h T.n = (ocH d T h).sum := sumW_J (fun t => t.hi) (Nat.le_refl _)
  have hw := winN_le T h d.w
  have d3 := c3.d0
  have d4 := c3.d1
  have d5 := c3.l0
  have d6 := c3.l1
  have m := mul_bd (a := ((fiN (wP d T h) T.n : Nat) : Int)) (A := 36) (b := d.d - d.sl) (B := 10000) (by omega) (by omega) (by omega) (by omega)
  have t1 : sL d T h T.n ≤ sT d T h b T.n := sumW_le fun k hk _ => (tz_bd (c2 k hk) hb).1
  have t2 : sT d T h b T.n ≤ sH d T h T.n := sumW_le fun k hk _ => (tz_bd (c2 k hk) hb).2
  have b1 := sumW_bd (p := wP d T h) (g := fun k => (T.f k).lo) (B := 10000) (m := T.n) (by omega) fun k hk _ => by
    have s := (c2 k hk).sp
    exact ⟨s.a, Int.le_trans s.b s.c⟩
  have b2 := sumW_bd (p := wP d T h) (g := fun k => (T.f k).hi) (B := 10000) (m := T.n) (by omega) fun k hk _ => by
    have s := (c2 k hk).sp
    exact ⟨Int.le_trans s.a s.b, s.c⟩
  have b1' : 0 ≤ sL d T h T.n ∧ sL d T h T.n ≤ T.n * 10000 := b1
  have b2' : 0 ≤ sH d T h T.n ∧ sH d T h T.n ≤ T.n * 10000 := b2
  have eM : (ocL d T h).must * (ocL d T h).by' = (fiN (wP d T h) T.n : Nat) * (d.d - d.sl) := Int.mul_comm _ _
  have eM2 : (ocH d T h).must * (ocH d T h).by' = (fiN (wP d T h) T.n : Nat) * (d.d - d.sl) := Int.mul_comm _ _
  have pL := lack_pay (ocH d T h)
  have pH := lack_pay (ocL d T h)
  rw [eM2, ← eH] at pL
  rw [eM, ← eL] at pH
  have eDL : dL d T h = payI d.pay ((fiN (wP d T h) T.n : Nat) * (d.d - d.sl) - sH d T h T.n) (fiN (wP d T h) T.n : Nat) := by rw [dL, if_pos he]; exact pL.symm
  have eDH : dH d T h = payI d.pay ((fiN (wP d T h) T.n : Nat) * (d.d - d.sl) - sL d T h T.n) (fiN (wP d T h) T.n : Nat) := by rw [dH, if_pos he]; exact pH.symm
  have n1 : 1 ≤ ((fiN (wP d T h) T.n : Nat) : Int) := by omega
  have ek : keI d T h = surI (ocL d T h) (ocH d T h) := by rw [keI, if_pos he]
  have kb := sur_bd (ocL d T h) (ocH d T h)
  have q1 : keP (ocL d T h) ↔ (fiN (wP d T h) T.n : Nat) * (d.d - d.sl) ≤ sL d T h T.n := by unfold keP; rw [eM, eL]
  have q2 : keP (ocH d T h) ↔ (fiN (wP d T h) T.n : Nat) * (d.d - d.sl) ≤ sH d T h T.n := by unfold keP; rw [eM2, eH]
  have pz : ∀ a : Int, a ≤ 0 → payI d.pay a (fiN (wP d T h) T.n : Nat) = 0 := fun a ha => by rw [payI, if_pos ha]
  refine ⟨n1, by omega, m.1, by omega, t1, t2, b1'.1, by omega, c3.p0, c3.p1, ?_, ?_, eDL, eDH, by omega, by omega, fun hk => ?_, fun hk => ?_, fun hk => ?_⟩
  · rw [eDL]; exact pay_mono c3.p0 n1 (by omega)
  · rw [eDH]; exact pay_mono c3.p0 n1 (by omega)
  · have : keP (ocL d T h) := Classical.byContradiction fun x => by
      rw [ek, surI, if_neg x] at hk
      split at hk <;> omega
    have := q1.1 this
    exact ⟨this, by rw [eDH]; exact pz _ (by omega)⟩
  · have x1 : ¬ keP (ocL d T h) := fun x => by rw [ek, surI, if_pos x] at hk; omega
    have x2 : ¬ keP (ocH d T h) := fun x => by rw [ek, surI, if_neg x1, if_pos x] at hk; omega
    have x3 : ¬ ((fiN (wP d T h) T.n : Nat) * (d.d - d.sl) ≤ sH d T h T.n) := fun x => x2 (q2.2 x)
    exact ⟨by omega, fun hp => by rw [eDL]; exact pay_pos hp n1 (by omega)⟩
  · have x1 : ¬ keP (ocL d T h) := fun x => by rw [ek, surI, if_pos x] at hk; omega
    have x2 : keP (ocH d T h) := Classical.byContradiction fun x => by rw [ek, surI, if_neg x1, if_neg x] at hk; omega
    have x3 : ¬ ((fiN (wP d T h) T.n : Nat) * (d.d - d.sl) ≤ sL d T h T.n) := fun x => x1 (q1.2 x)
    exact ⟨by omega, q2.1 x2⟩
theorem hd_true {d : De} {T : Tl} {h : Int} {b : Bs} (hb : b.n = 0 ∨ okBs b) : hdG d T h b := by
  rw [hdG_vc]
  simp only [rI, rE, tt3, tt4, tt5, tt13, tt14, and_true, true_and, Nat.zero_lt_one, implies_true, and_self, Classical.not_not, Int.toNat_natCast, Bool.false_eq_true, modN]
  intro h1 h2
  have hb : okBs b := hb.resolve_left fun x => h2 (by omega)
  have hn : T.n ≤ 1000 := by omega
  refine ⟨hn, hn, hn, fun h3 => ?_, fun h3 => ⟨fun x => x h3, fun _ => ?_⟩⟩
  · have e1 : keI d T h = 0 := by rw [keI, if_neg h3]
    have e2 : dL d T h = 0 := by rw [dL, if_neg h3]
    have e3 : dH d T h = 0 := by rw [dH, if_neg h3]
    have e4 := erJ_cases h3
    repeat' (first | apply And.intro | intro _)
    all_goals first | omega | exact absurd trivial (by assumption) | (have := e4 (.inl ‹_›); omega) | (have := e4 (.inr ‹_›); omega)
  · obtain ⟨a1, a2, a3⟩ := erJ_ok h3
    obtain ⟨c1, c2, c3⟩ := erA_ok a1
    have hw := winN_le T h d.w
    have hT := hdT_true a1 (by omega) hn
    have w0 := c3.w0
    have w1 := c3.w1
    refine ⟨fun x => x c3, fun _ => ⟨hn, fun x => x c2, fun _ => ⟨⟨0, by omega, rfl, rfl, rfl, rfl, rfl⟩, fun z hz => ⟨fun hl => ?_, fun hl => ?_⟩⟩⟩⟩
    · have tz := tz_bd (c2 z (by omega)) hb
      have s := (c2 z (by omega)).sp
      have sa := s.a
      have sb := s.b
      have sc := s.c
      have bn := hb.n
      have bf := hb.f (z % b.n) (Nat.mod_lt _ (by omega))
      have fm := fiN_mono (p := wP d T h) (by omega : z ≤ T.n)
      have eN : fiN (wP d T h) T.n = winN T h d.w := rfl
      have b1 := sumW_bd (p := wP d T h) (g := fun k => (T.f k).lo) (B := 10000) (m := z) (by omega) fun k hk _ => by
        have s := (c2 k (by omega)).sp
        exact ⟨s.a, Int.le_trans s.b s.c⟩
      have b2 := sumW_bd (p := wP d T h) (g := fun k => (T.f k).hi) (B := 10000) (m := z) (by omega) fun k hk _ => by
        have s := (c2 k (by omega)).sp
        exact ⟨Int.le_trans s.a s.b, s.c⟩
      have t1 : sL d T h z ≤ sT d T h b z := sumW_le fun k hk _ => (tz_bd (c2 k (by omega)) hb).1
      have t2 : sT d T h b z ≤ sH d T h z := sumW_le fun k hk _ => (tz_bd (c2 k (by omega)) hb).2
      have b1' : 0 ≤ sL d T h z ∧ sL d T h z ≤ z * 10000 := b1
      have b2' : 0 ≤ sH d T h z ∧ sH d T h z ≤ z * 10000 := b2
      have mb := tmod_bd bf.1 (by omega : 0 < (T.f z).hi - (T.f z).lo + 1)
      have no : ¬ wP d T h z → sT d T h b z = sT d T h b (z + 1) ∧ sL d T h z = sL d T h (z + 1) ∧ sH d T h z = sH d T h (z + 1) ∧ fiN (wP d T h) z = fiN (wP d T h) (z + 1) := fun hw => ⟨(sumW_no hw).symm, (sumW_no hw).symm, (sumW_no hw).symm, (fiN_no hw).symm⟩
      refine ⟨by omega, hl, by omega, fun h4 => ?_, fun h4 => ⟨fun h5 => ?_, fun h5 => ?_⟩⟩
      · obtain ⟨n1, n2, n3, n4⟩ := no fun hw => by have := hw.1; omega
        exact ⟨by omega, z + 1, by omega, by omega, n1, n2, n3, by rw [n4], by omega⟩
      · obtain ⟨n1, n2, n3, n4⟩ := no fun hw => by have := hw.2; omega
        exact ⟨by omega, z + 1, by omega, by omega, n1, n2, n3, by rw [n4], by omega⟩
      · have hw : wP d T h z := ⟨by omega, by omega⟩
        have y1 : sT d T h b (z + 1) = sT d T h b z + tzI T b z := sumW_yes hw
        have y2 : sL d T h (z + 1) = sL d T h z + (T.f z).lo := sumW_yes hw
        have y3 : sH d T h (z + 1) = sH d T h z + (T.f z).hi := sumW_yes hw
        have y4 := fiN_yes hw
        have et : tzI T b z = (T.f z).lo + (b.f (z % b.n)).tmod ((T.f z).hi - (T.f z).lo + 1) := rfl
        have ml : z % b.n < b.n := Nat.mod_lt _ (by omega)
        exact ⟨by omega, by omega, by omega, by omega, by omega, by omega, by omega, by omega, by omega, by omega, by omega, by omega, by omega, z + 1, by omega, by omega, by rw [y1, et]; omega, y2.symm, y3.symm, by rw [y4]; omega, by omega⟩
    · have : z = T.n := by omega
      subst this
      obtain ⟨N1, N2, M0, M1, tl, tg, l0, g1, p0, p1, f1, f2, f3, f4, k0, k1, k2, k3, k4⟩ := du_facts h3 hb
      have d3 := c3.d0
      have d4 := c3.d1
      have d5 := c3.l0
      have d6 := c3.l1
      generalize ((fiN (wP d T h) T.n : Nat) : Int) * (d.d - d.sl) = M at *
      generalize ((fiN (wP d T h) T.n : Nat) : Int) = N at *
      generalize payI d.pay (M - sT d T h b T.n) N = q1 at *
      generalize payI d.pay (M - sH d T h T.n) N = q2 at *
      generalize payI d.pay (M - sL d T h T.n) N = q3 at *
      generalize sT d T h b T.n = xt at *
      generalize sL d T h T.n = xl at *
      generalize sH d T h T.n = xh at *
      repeat' (first | exact hT | apply And.intro | intro _)
      all_goals omega
end Go.Proofs.Ytgidaaogknikoaa
