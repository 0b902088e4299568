import Derived.Test.YtiighndfenlbdaaEoEoVEpEq
set_option linter.unusedVariables false
set_option linter.unusedSimpArgs false
set_option maxRecDepth 100000
namespace Go.Proofs.Ytiighndfenlbdaa
open Go Go.Lg
def eGG0 (T : Tn) (w : Nat → Bool) (T_2 : Tn) (w_1 : Nat → Bool) (T_3 : Tn) (w_2 : Nat → Bool) : Prop := (True ∧ True ∧ True ∧ True ∧ True ∧ rE T.10 ∧ (∀ (i : Nat), i < T.10 → rE ((SV.dec (w i = true) inferInstance).den) ∧ True) ∧ rE (0 : Nat) ∧ rE (0 : Nat) ∧ rE false ∧ T_2.10 = T.10 ∧ (∀ (i : Nat), i < T.10 → (SV.agg [b6 (loA T_2 w_1 i), b6 (hiA T_2 w_1 i)]).den = (SV.agg [b6 (loA T w i), b6 (hiA T w i)]).den ∧ True ∧ True ∧ True) ∧ T_3.1 = T.1 ∧ (∀ (i : Nat), i < T.1 → (SV.agg [b6 ((fsA T_3 w_2 (coL T_3)).bx i), b6 ((fsA T_3 w_2 (coL T_3)).fo i), b6 ((fsA T_3 w_2 (coH T_3 (0 : Int))).fo i), b6 ((fsA T_3 w_2 (coL T_3)).rv i), SV.dec ((fsA T_3 w_2 (coL T_3)).n ≤ (↑i : Int)) inferInstance]).den = (SV.agg [b6 ((fsA T w (coL T)).bx i), b6 ((fsA T w (coL T)).fo i), b6 ((fsA T w (coH T (0 : Int))).fo i), b6 ((fsA T w (coL T)).rv i), SV.dec ((fsA T w (coL T)).n ≤ (↑i : Int)) inferInstance]).den ∧ True ∧ True ∧ True ∧ True ∧ True ∧ True) ∧ rE (0 : Int) ∧ rE (0 : Nat) ∧ rE (0 : Nat) ∧ rE (0 : Nat) ∧ rE (0 : Nat) ∧ T.1 = T.1 ∧ (∀ (i : Nat), i < T.1 → rE ((bxV T i).den) ∧ True ∧ True ∧ True ∧ True) ∧ T.5 = T.5 ∧ T.6 = T.6 ∧ T.7 = T.7 ∧ T.8 = T.8 ∧ T.9 = T.9 ∧ rE T.10 ∧ (∀ (i : Nat), i < T.10 → rE ((ldV T i).den) ∧ True ∧ True ∧ True) ∧ T.1 = T.1 ∧ (∀ (i : Nat), i < T.1 → rE ((bxV T i).den) ∧ True ∧ True ∧ True ∧ True) ∧ T.5 = T.5 ∧ T.6 = T.6 ∧ T.7 = T.7 ∧ T.8 = T.8 ∧ T.9 = T.9 ∧ rE T.10 ∧ (∀ (i : Nat), i < T.10 → rE ((ldV T i).den) ∧ True ∧ True ∧ True) ∧ T.1 = T.1 ∧ (∀ (i : Nat), i < T.1 → rE ((bxV T i).den) ∧ True ∧ True ∧ True ∧ True) ∧ T.5 = T.5 ∧ T.6 = T.6 ∧ T.7 = T.7 ∧ T.8 = T.8 ∧ T.9 = T.9 ∧ rE T.10 ∧ (∀ (i : Nat), i < T.10 → rE ((ldV T i).den) ∧ True ∧ True ∧ True) ∧ True)
def eGG1 (T : Tn) (w : Nat → Bool) : Prop := (∀ (i : Nat), i < T.1 → rE ((SV.agg [b6 ((fsA T w (coL T)).bx i), b6 ((fsA T w (coL T)).fo i), b6 ((fsA T w (coH T (0 : Int))).fo i), b6 ((fsA T w (coL T)).rv i), SV.dec ((fsA T w (coL T)).n ≤ (↑i : Int)) inferInstance]).den) ∧ True ∧ True ∧ True ∧ True ∧ True ∧ True)
def eGG2 (T : Tn) (w : Nat → Bool) : Prop := (∀ (i : Nat), i < T.1 → rE ((SV.agg [b6 ((fsA (lowT T) w (coL (lowT T))).bx i), b6 ((fsA (lowT T) w (coL (lowT T))).fo i), b6 ((fsA (lowT T) w (coH (lowT T) (0 : Int))).fo i), b6 ((fsA (lowT T) w (coL (lowT T))).rv i), SV.dec ((fsA (lowT T) w (coL (lowT T))).n ≤ (↑i : Int)) inferInstance]).den) ∧ True ∧ True ∧ True ∧ True ∧ True ∧ True)
def eGG3 (T : Tn) (w : Nat → Bool) : Prop := (∀ (i : Nat), i < T.1 → rE ((SV.agg [b6 ((fsA (higT T) w (coL (higT T))).bx i), b6 ((fsA (higT T) w (coL (higT T))).fo i), b6 ((fsA (higT T) w (coH (higT T) (0 : Int))).fo i), b6 ((fsA (higT T) w (coL (higT T))).rv i), SV.dec ((fsA (higT T) w (coL (higT T))).n ≤ (↑i : Int)) inferInstance]).den) ∧ True ∧ True ∧ True ∧ True ∧ True ∧ True)
def eGG4 (T : Tn) : Prop := (∀ (i : Nat), i < T.1 → rE ((bxV T i).den) ∧ True ∧ True ∧ True ∧ True)
def eGG5 (T : Tn) (w : Nat → Bool) : Prop := (∀ (i : Nat), i < T.10 → rE ((SV.agg [b6 (loA T w i), b6 (hiA T w i)]).den) ∧ True ∧ True ∧ True)
theorem eGG_vc (T : Tn) (w : Nat → Bool) : eGG T w =
((0 : Nat) < (1 : Nat) ∧ (∀ (i : Nat), i < T.1 → True ∧ True ∧ True ∧ True) ∧ (∀ (i : Nat), i < T.10 → True ∧ True ∧ True) ∧ ∃ (T_1 : Tn), SV.agg [SV.lst (3 : Nat) T.nb (bxV T), SV.int IntKind.i64 T.we, SV.int IntKind.i64 T.rv, SV.int IntKind.i64 T.re, SV.int IntKind.i64 T.wo, SV.int IntKind.i64 T.ti, SV.lst (2 : Nat) T.nl (ldV T)] = tV T_1 ∧ ((16 : Int) < (↑T_1.nl : Int) ∧ T_1.nl ≤ (16 : Nat) ∨ (24 : Nat) < T_1.nl ∨ (9 : Nat) < T_1.nb → rE true ∧ True) ∧ (¬((16 : Int) < (↑T_1.nl : Int) ∧ T_1.nl ≤ (16 : Nat) ∨ (24 : Nat) < T_1.nl ∨ (9 : Nat) < T_1.nb) → ((30 : Int) < (↑T.10 : Int) → rE true ∧ True) ∧ (¬(30 : Int) < (↑T.10 : Int) → (0 : Nat) < (1 : Nat) ∧ (∀ (i : Nat), i < T.1 → True ∧ True ∧ True ∧ True) ∧ (∀ (i : Nat), i < T.10 → True ∧ True ∧ True) ∧ (∀ (i : Nat), i < T.10 → True) ∧ ∃ (T_2 : Tn), ∃ (w_1 : Nat → Bool), (SV.agg [SV.lst (3 : Nat) T.nb (bxV T), SV.int IntKind.i64 T.we,
SV.int IntKind.i64 T.rv, SV.int IntKind.i64 T.re, SV.int IntKind.i64 T.wo, SV.int IntKind.i64 T.ti, SV.lst (2 : Nat) T.nl (ldV T)] = tV T_2 ∧ (SV.lst (1 : Nat) T.nl fun h => SV.dec (w h = true) inferInstance) = twL T_2.nl w_1 ∧ okR T_2 w_1) ∧ (0 : Nat) < (1 : Nat) ∧ (∀ (i : Nat), i < T.1 → True ∧ True ∧ True ∧ True) ∧ (∀ (i : Nat), i < T.10 → True ∧ True ∧ True) ∧ (∀ (i : Nat), i < T.10 → True) ∧ ∃ (T_3 : Tn), ∃ (w_2 : Nat → Bool), (SV.agg [SV.lst (3 : Nat) T.nb (bxV T), SV.int IntKind.i64 T.we, SV.int IntKind.i64 T.rv, SV.int IntKind.i64 T.re, SV.int IntKind.i64 T.wo, SV.int IntKind.i64 T.ti, SV.lst (2 : Nat) T.nl (ldV T)] = tV T_3 ∧ (SV.lst (1 : Nat) T.nl fun h => SV.dec (w h = true) inferInstance) = twL T_3.nl w_2 ∧ okR T_3 w_2) ∧ (¬(0 : Int) = (0 : Int) → ((↑T_2.10 : Int) = (0 : Int) → (rE (0 : Int) → rE true ∧ True) ∧ (¬(0 : Int) = (0 : Int) → false = true ∧ True)) ∧ (¬(↑T_2.10 :
Int) = (0 : Int) → false = true ∧ True)) ∧ (¬¬(0 : Int) = (0 : Int) → (True ∧ (0 : Nat) < (1 : Nat) ∧ True ∧ (0 : Nat) < (1 : Nat) ∧ (eGG0 T w T_2 w_1 T_3 w_2) ∧ (eGG0 T w T_2 w_1 T_3 w_2) ∧ True) ∧ ∀ (z : Unit), True → (0 : Nat) < (1 : Nat) ∧ (∃ (z : Nat), egI T z ∧ rE T.10 ∧ (∀ (i : Nat), i < T.10 → rE ((SV.dec (w i = true) inferInstance).den) ∧ True) ∧ rE false ∧ rE T.10 ∧ (eGG5 T w) ∧ T.1 = T.1 ∧ (eGG1 T w) ∧ rE (0 : Int) ∧ rE (0 : Nat) ∧ rE (0 : Nat) ∧ rE (0 : Nat) ∧ rE (0 : Nat) ∧ rE T.10 ∧ (∀ (i : Nat), i < T.10 → rE ((ldV T i).den) ∧ True ∧ True ∧ True) ∧ rE (↑T.10 : Int) ∧ (0 : Int) = (↑z : Int) ∧ T.1 = T.1 ∧ (eGG4 T) ∧ T.5 = T.5 ∧ T.6 = T.6 ∧ T.7 = T.7 ∧ T.8 = T.8 ∧ T.9 = T.9 ∧ rE (0 : Nat) ∧ (0 : Nat) = z ∧ T.1 = T.1 ∧ (eGG4 T) ∧ T.5 = T.5 ∧ T.6 = T.6 ∧ T.7 = T.7 ∧ T.8 = T.8 ∧ T.9 = T.9 ∧ rE (0 : Nat) ∧ (0 : Nat) = z ∧ z = (0 : Nat) ∧ z = (0 : Nat) ∧ True) ∧ ∀ (z : Nat), egI
T z → ((↑z : Int) < (↑T.10 : Int) → (0 : Int) ≤ (↑z : Int) ∧ (↑z : Int) < (↑T.10 : Int) ∧ (True ∧ True ∧ True ∧ True ∧ (0 : Nat) < (1 : Nat) ∧ True ∧ True ∧ True ∧ True ∧ (0 : Nat) < (1 : Nat) ∧ True ∧ True ∧ True ∧ True ∧ (0 : Nat) < (1 : Nat) ∧ True ∧ True ∧ True ∧ True ∧ (0 : Nat) < (1 : Nat) ∧ True ∧ True ∧ True ∧ True ∧ (0 : Nat) < (1 : Nat) ∧ True ∧ True ∧ True ∧ True ∧ (0 : Nat) < (1 : Nat) ∧ (True ∧ True ∧ True ∧ True ∧ True ∧ (True ∧ True ∧ (∀ (i : Nat), i < (1 : Nat) → rE true) ∧ rE (0 : Nat) ∧ z = z ∧ (∀ (i : Nat), rE true) ∧ (z + (1 : Nat)) * (16 : Nat) ≤ (140737488355328 : Nat) ∧ z + (1 : Nat) ≤ (4611686018427387904 : Nat) ∧ True ∧ True ∧ (True ∧ True ∧ True ∧ True ∧ True ∧ True ∧ True ∧ (∀ (i : Nat), i < (1 : Nat) → rE true) ∧ rE (0 : Nat) ∧ z = z ∧ (∀ (i : Nat), rE true) ∧ (z + (1 : Nat)) * (16 : Nat) ≤ (140737488355328 : Nat) ∧ z + (1 : Nat) ≤ (4611686018427387904 : Nat)
∧ True ∧ True ∧ True ∧ True ∧ True ∧ True ∧ ∃ (z_1 : Nat), (egJ T z_1 ∧ z_1 = (↑z : Int).toNat) ∧ rE T.10 ∧ (∀ (i : Nat), i < T.10 → rE ((SV.dec (w i = true) inferInstance).den) ∧ True) ∧ rE false ∧ rE T.10 ∧ (eGG5 T w) ∧ T.1 = T.1 ∧ (eGG1 T w) ∧ rE (0 : Int) ∧ rE (0 : Nat) ∧ rE (0 : Nat) ∧ rE (0 : Nat) ∧ rE (0 : Nat) ∧ rE T.10 ∧ (∀ (i : Nat), i < T.10 → rE ((ldV T i).den) ∧ True ∧ True ∧ True) ∧ rE (↑T.10 : Int) ∧ (↑z : Int) = (↑z_1 : Int) ∧ T.1 = T.1 ∧ (eGG4 T) ∧ T.5 = T.5 ∧ T.6 = T.6 ∧ T.7 = T.7 ∧ T.8 = T.8 ∧ T.9 = T.9 ∧ rE (0 : Nat) ∧ z + (1 : Nat) = z_1 + (1 : Nat) ∧ T.1 = T.1 ∧ (eGG4 T) ∧ T.5 = T.5 ∧ T.6 = T.6 ∧ T.7 = T.7 ∧ T.8 = T.8 ∧ T.9 = T.9 ∧ rE (0 : Nat) ∧ z + (1 : Nat) = z_1 + (1 : Nat) ∧ z_1 + (1 : Nat) = z + (1 : Nat) ∧ (∀ (i : Nat), i < z_1 + (1 : Nat) → rE (2 : Nat) ∧ (if i < z then T.11 i else T.11 (↑z : Int).toNat) = T.11 i ∧ (if i < z then T.11 i else T.11 (↑z :
Int).toNat) = T.11 i ∧ True) ∧ z_1 + (1 : Nat) = z + (1 : Nat) ∧ (∀ (i : Nat), i < z_1 + (1 : Nat) → rE (2 : Nat) ∧ (if i < z then T.12 i else T.12 (↑z : Int).toNat) = T.12 i ∧ (if i < z then T.12 i else T.12 (↑z : Int).toNat) = T.12 i ∧ True) ∧ True) ∧ True) ∧ True) ∧ True) ∧ ∀ (z_1 : Nat), egJ T z_1 ∧ z_1 = (↑z : Int).toNat → rI ((↑z_1 : Int) + (1 : Int)) ∧ ∃ (z_2 : Nat), egI T z_2 ∧ T.10 - z_2 < T.10 - z ∧ rE T.10 ∧ (∀ (i : Nat), i < T.10 → rE ((SV.dec (w i = true) inferInstance).den) ∧ True) ∧ rE false ∧ rE T.10 ∧ (eGG5 T w) ∧ T.1 = T.1 ∧ (eGG1 T w) ∧ rE (0 : Int) ∧ rE (0 : Nat) ∧ rE (0 : Nat) ∧ rE (0 : Nat) ∧ rE (0 : Nat) ∧ rE T.10 ∧ (∀ (i : Nat), i < T.10 → rE ((ldV T i).den) ∧ True ∧ True ∧ True) ∧ rE (↑T.10 : Int) ∧ (↑z_1 : Int) + (1 : Int) = (↑z_2 : Int) ∧ T.1 = T.1 ∧ (eGG4 T) ∧ T.5 = T.5 ∧ T.6 = T.6 ∧ T.7 = T.7 ∧ T.8 = T.8 ∧ T.9 = T.9 ∧ rE (0 : Nat) ∧ z_1 + (1 : Nat) = z_2 ∧
T.1 = T.1 ∧ (eGG4 T) ∧ T.5 = T.5 ∧ T.6 = T.6 ∧ T.7 = T.7 ∧ T.8 = T.8 ∧ T.9 = T.9 ∧ rE (0 : Nat) ∧ z_1 + (1 : Nat) = z_2 ∧ z_2 = z_1 + (1 : Nat) ∧ (∀ (i : Nat), i < z_2 → rE (2 : Nat) ∧ rE (T.11 i) ∧ rE (T.11 i) ∧ True) ∧ z_2 = z_1 + (1 : Nat) ∧ (∀ (i : Nat), i < z_2 → rE (2 : Nat) ∧ rE (T.12 i) ∧ rE (T.12 i) ∧ True) ∧ True) ∧ (¬(↑z : Int) < (↑T.10 : Int) → (0 : Nat) < (1 : Nat) ∧ (∀ (i : Nat), i < T.1 → True ∧ True ∧ True ∧ True) ∧ (0 : Nat) + z ≤ z ∧ (∀ (i : Nat), i < z → rE (2 : Nat) ∧ True ∧ True ∧ True) ∧ (∀ (i : Nat), i < T.10 → True) ∧ ∃ (T_4 : Tn), ∃ (w_3 : Nat → Bool), (SV.agg [SV.lst (3 : Nat) T.nb (bxV T), SV.int IntKind.i64 T.we, SV.int IntKind.i64 T.rv, SV.int IntKind.i64 T.re, SV.int IntKind.i64 T.wo, SV.int IntKind.i64 T.ti, SV.lst (2 : Nat) z fun i => SV.agg [b6 (T.lo (i + (0 : Nat))), b6 (T.lo (i + (0 : Nat)))]] = tV T_4 ∧ (SV.lst (1 : Nat) T.nl fun h => SV.dec (w h =
true) inferInstance) = twL T_4.nl w_3 ∧ okR T_4 w_3) ∧ (0 : Nat) < (1 : Nat) ∧ (∀ (i : Nat), i < T.1 → True ∧ True ∧ True ∧ True) ∧ (0 : Nat) + z ≤ z ∧ (∀ (i : Nat), i < z → rE (2 : Nat) ∧ True ∧ True ∧ True) ∧ (∀ (i : Nat), i < T.10 → True) ∧ ∃ (T_5 : Tn), ∃ (w_4 : Nat → Bool), (SV.agg [SV.lst (3 : Nat) T.nb (bxV T), SV.int IntKind.i64 T.we, SV.int IntKind.i64 T.rv, SV.int IntKind.i64 T.re, SV.int IntKind.i64 T.wo, SV.int IntKind.i64 T.ti, SV.lst (2 : Nat) z fun i => SV.agg [b6 (T.hi (i + (0 : Nat))), b6 (T.hi (i + (0 : Nat)))]] = tV T_5 ∧ (SV.lst (1 : Nat) T.nl fun h => SV.dec (w h = true) inferInstance) = twL T_5.nl w_4 ∧ okR T_5 w_4) ∧ (0 : Nat) < (1 : Nat) ∧ (∀ (i : Nat), i < T.1 → True ∧ True ∧ True ∧ True) ∧ (0 : Nat) + z ≤ z ∧ (∀ (i : Nat), i < z → rE (2 : Nat) ∧ True ∧ True ∧ True) ∧ (∀ (i : Nat), i < T.10 → True) ∧ ∃ (T_6 : Tn), ∃ (w_5 : Nat → Bool), (SV.agg [SV.lst (3 : Nat)
T.nb (bxV T), SV.int IntKind.i64 T.we, SV.int IntKind.i64 T.rv, SV.int IntKind.i64 T.re, SV.int IntKind.i64 T.wo, SV.int IntKind.i64 T.ti, SV.lst (2 : Nat) z fun i => SV.agg [b6 (T.lo (i + (0 : Nat))), b6 (T.lo (i + (0 : Nat)))]] = tV T_6 ∧ (SV.lst (1 : Nat) T.nl fun h => SV.dec (w h = true) inferInstance) = twL T_6.nl w_5 ∧ okR T_6 w_5) ∧ (0 : Nat) < (1 : Nat) ∧ (∀ (i : Nat), i < T.1 → True ∧ True ∧ True ∧ True) ∧ (0 : Nat) + z ≤ z ∧ (∀ (i : Nat), i < z → rE (2 : Nat) ∧ True ∧ True ∧ True) ∧ (∀ (i : Nat), i < T.10 → True) ∧ ∃ (T_7 : Tn), ∃ (w_6 : Nat → Bool), (SV.agg [SV.lst (3 : Nat) T.nb (bxV T), SV.int IntKind.i64 T.we, SV.int IntKind.i64 T.rv, SV.int IntKind.i64 T.re, SV.int IntKind.i64 T.wo, SV.int IntKind.i64 T.ti, SV.lst (2 : Nat) z fun i => SV.agg [b6 (T.hi (i + (0 : Nat))), b6 (T.hi (i + (0 : Nat)))]] = tV T_7 ∧ (SV.lst (1 : Nat) T.nl fun h => SV.dec (w h = true)
inferInstance) = twL T_7.nl w_6 ∧ okR T_7 w_6) ∧ (¬(0 : Int) = (0 : Int) → false = true ∧ True) ∧ (¬¬(0 : Int) = (0 : Int) → (¬(0 : Int) = (0 : Int) → false = true ∧ True) ∧ (¬¬(0 : Int) = (0 : Int) → (¬(0 : Int) = (0 : Int) → false = true ∧ True) ∧ (¬¬(0 : Int) = (0 : Int) → (¬(0 : Int) = (0 : Int) → false = true ∧ True) ∧ (¬¬(0 : Int) = (0 : Int) → (¬(0 : Int) = (0 : Int) → false = true ∧ True) ∧ (¬¬(0 : Int) = (0 : Int) → (¬(↑T_4.10 : Int) = (↑T.10 : Int) → false = true ∧ True) ∧ (¬¬(↑T_4.10 : Int) = (↑T.10 : Int) → (¬(↑T_5.10 : Int) = (↑T.10 : Int) → false = true ∧ True) ∧ (¬¬(↑T_5.10 : Int) = (↑T.10 : Int) → (¬(↑T_6.1 : Int) = (↑T.1 : Int) → false = true ∧ True) ∧ (¬¬(↑T_6.1 : Int) = (↑T.1 : Int) → (¬(↑T_7.1 : Int) = (↑T.1 : Int) → false = true ∧ True) ∧ (¬¬(↑T_7.1 : Int) = (↑T.1 : Int) → (∃ (z : Nat), egI T z ∧ rE false ∧ T.1 = T.1 ∧ (eGG1 T w) ∧ T_4.10 = T.10 ∧ (∀ (i : Nat), i <
T.10 → (SV.agg [b6 (loA T_4 w_3 i), b6 (hiA T_4 w_3 i)]).den = (SV.agg [b6 (loA (lowT T) w i), b6 (hiA (lowT T) w i)]).den ∧ True ∧ True ∧ True) ∧ T_5.10 = T.10 ∧ (∀ (i : Nat), i < T.10 → (SV.agg [b6 (loA T_5 w_4 i), b6 (hiA T_5 w_4 i)]).den = (SV.agg [b6 (loA (higT T) w i), b6 (hiA (higT T) w i)]).den ∧ True ∧ True ∧ True) ∧ T_6.1 = T.1 ∧ (∀ (i : Nat), i < T.1 → (SV.agg [b6 ((fsA T_6 w_5 (coL T_6)).bx i), b6 ((fsA T_6 w_5 (coL T_6)).fo i), b6 ((fsA T_6 w_5 (coH T_6 (0 : Int))).fo i), b6 ((fsA T_6 w_5 (coL T_6)).rv i), SV.dec ((fsA T_6 w_5 (coL T_6)).n ≤ (↑i : Int)) inferInstance]).den = (SV.agg [b6 ((fsA (lowT T) w (coL (lowT T))).bx i), b6 ((fsA (lowT T) w (coL (lowT T))).fo i), b6 ((fsA (lowT T) w (coH (lowT T) (0 : Int))).fo i), b6 ((fsA (lowT T) w (coL (lowT T))).rv i), SV.dec ((fsA (lowT T) w (coL (lowT T))).n ≤ (↑i : Int)) inferInstance]).den ∧ True ∧ True ∧ True ∧ True ∧ True ∧
True) ∧ T_7.1 = T.1 ∧ (∀ (i : Nat), i < T.1 → (SV.agg [b6 ((fsA T_7 w_6 (coL T_7)).bx i), b6 ((fsA T_7 w_6 (coL T_7)).fo i), b6 ((fsA T_7 w_6 (coH T_7 (0 : Int))).fo i), b6 ((fsA T_7 w_6 (coL T_7)).rv i), SV.dec ((fsA T_7 w_6 (coL T_7)).n ≤ (↑i : Int)) inferInstance]).den = (SV.agg [b6 ((fsA (higT T) w (coL (higT T))).bx i), b6 ((fsA (higT T) w (coL (higT T))).fo i), b6 ((fsA (higT T) w (coH (higT T) (0 : Int))).fo i), b6 ((fsA (higT T) w (coL (higT T))).rv i), SV.dec ((fsA (higT T) w (coL (higT T))).n ≤ (↑i : Int)) inferInstance]).den ∧ True ∧ True ∧ True ∧ True ∧ True ∧ True) ∧ rE T.10 ∧ (eGG5 T w) ∧ rE (↑T.10 : Int) ∧ (0 : Int) = (↑z : Int) ∧ True) ∧ ∀ (z : Nat), egI T z → ((↑z : Int) < (↑T.10 : Int) → (0 : Int) ≤ (↑z : Int) ∧ (↑z : Int) < (↑T.10 : Int) ∧ (0 : Int) ≤ (↑z : Int) ∧ (↑z : Int) < (↑T.10 : Int) ∧ (0 : Nat) < (1 : Nat) ∧ (0 : Nat) < (1 : Nat) ∧ (¬(loA (lowT T) w (↑z :
Int).toNat = loA T w (↑z : Int).toNat ∧ hiA (lowT T) w (↑z : Int).toNat = loA T w (↑z : Int).toNat) → false = true ∧ True) ∧ (¬¬(loA (lowT T) w (↑z : Int).toNat = loA T w (↑z : Int).toNat ∧ hiA (lowT T) w (↑z : Int).toNat = loA T w (↑z : Int).toNat) → (0 : Int) ≤ (↑z : Int) ∧ (↑z : Int) < (↑T.10 : Int) ∧ (0 : Nat) < (1 : Nat) ∧ (0 : Nat) < (1 : Nat) ∧ (¬(loA (higT T) w (↑z : Int).toNat = hiA T w (↑z : Int).toNat ∧ hiA (higT T) w (↑z : Int).toNat = hiA T w (↑z : Int).toNat) → false = true ∧ True) ∧ (¬¬(loA (higT T) w (↑z : Int).toNat = hiA T w (↑z : Int).toNat ∧ hiA (higT T) w (↑z : Int).toNat = hiA T w (↑z : Int).toNat) → (0 : Nat) < (1 : Nat) ∧ (0 : Nat) < (1 : Nat) ∧ (hiA T w (↑z : Int).toNat < loA T w (↑z : Int).toNat → false = true ∧ True) ∧ (¬hiA T w (↑z : Int).toNat < loA T w (↑z : Int).toNat → (0 : Nat) < (1 : Nat) ∧ (loA T w (↑z : Int).toNat < (0 : Int) → false = true ∧ True) ∧
(¬loA T w (↑z : Int).toNat < (0 : Int) → rI ((↑z : Int) + (1 : Int)) ∧ ∃ (z_1 : Nat), egI T z_1 ∧ T.10 - z_1 < T.10 - z ∧ rE false ∧ T.1 = T.1 ∧ (eGG1 T w) ∧ rE T.10 ∧ (∀ (i : Nat), i < T.10 → rE ((SV.agg [b6 (loA (lowT T) w i), b6 (hiA (lowT T) w i)]).den) ∧ True ∧ True ∧ True) ∧ rE T.10 ∧ (∀ (i : Nat), i < T.10 → rE ((SV.agg [b6 (loA (higT T) w i), b6 (hiA (higT T) w i)]).den) ∧ True ∧ True ∧ True) ∧ T.1 = T.1 ∧ (eGG2 T w) ∧ T.1 = T.1 ∧ (eGG3 T w) ∧ rE T.10 ∧ (eGG5 T w) ∧ rE (↑T.10 : Int) ∧ (↑z : Int) + (1 : Int) = (↑z_1 : Int) ∧ True))))) ∧ (¬(↑z : Int) < (↑T.10 : Int) → (∃ (z : Nat), egK T z ∧ rE false ∧ T.1 = T.1 ∧ (eGG2 T w) ∧ T.1 = T.1 ∧ (eGG3 T w) ∧ T.1 = T.1 ∧ (eGG1 T w) ∧ rE (↑T.1 : Int) ∧ (0 : Int) = (↑z : Int) ∧ True) ∧ ∀ (z : Nat), egK T z → ((↑z : Int) < (↑T.1 : Int) → (0 : Int) ≤ (↑z : Int) ∧ (↑z : Int) < (↑T.1 : Int) ∧ (0 : Int) ≤ (↑z : Int) ∧ (↑z : Int) < (↑T.1 : Int) ∧
(0 : Nat) < (1 : Nat) ∧ (0 : Nat) < (1 : Nat) ∧ (¬((fsA (lowT T) w (coL (lowT T))).4 (↑z : Int).toNat = (fsA T w (coL T)).4 (↑z : Int).toNat ∧ (fsA (lowT T) w (coH (lowT T) (0 : Int))).4 (↑z : Int).toNat = (fsA T w (coL T)).4 (↑z : Int).toNat) → false = true ∧ True) ∧ (¬¬((fsA (lowT T) w (coL (lowT T))).4 (↑z : Int).toNat = (fsA T w (coL T)).4 (↑z : Int).toNat ∧ (fsA (lowT T) w (coH (lowT T) (0 : Int))).4 (↑z : Int).toNat = (fsA T w (coL T)).4 (↑z : Int).toNat) → (0 : Int) ≤ (↑z : Int) ∧ (↑z : Int) < (↑T.1 : Int) ∧ (0 : Nat) < (1 : Nat) ∧ (0 : Nat) < (1 : Nat) ∧ (¬((fsA (higT T) w (coL (higT T))).4 (↑z : Int).toNat = (fsA T w (coH T (0 : Int))).4 (↑z : Int).toNat ∧ (fsA (higT T) w (coH (higT T) (0 : Int))).4 (↑z : Int).toNat = (fsA T w (coH T (0 : Int))).4 (↑z : Int).toNat) → false = true ∧ True) ∧ (¬¬((fsA (higT T) w (coL (higT T))).4 (↑z : Int).toNat = (fsA T w (coH T (0 : Int))).4
(↑z : Int).toNat ∧ (fsA (higT T) w (coH (higT T) (0 : Int))).4 (↑z : Int).toNat = (fsA T w (coH T (0 : Int))).4 (↑z : Int).toNat) → (0 : Int) ≤ (↑z : Int) ∧ (↑z : Int) < (↑T.1 : Int) ∧ (0 : Nat) < (1 : Nat) ∧ (¬(fsA (lowT T) w (coL (lowT T))).3 (↑z : Int).toNat = (fsA T w (coL T)).3 (↑z : Int).toNat → false = true ∧ True) ∧ (¬¬(fsA (lowT T) w (coL (lowT T))).3 (↑z : Int).toNat = (fsA T w (coL T)).3 (↑z : Int).toNat → (0 : Int) ≤ (↑z : Int) ∧ (↑z : Int) < (↑T.1 : Int) ∧ (0 : Nat) < (1 : Nat) ∧ (¬(fsA (higT T) w (coL (higT T))).3 (↑z : Int).toNat = (fsA T w (coL T)).3 (↑z : Int).toNat → false = true ∧ True) ∧ (¬¬(fsA (higT T) w (coL (higT T))).3 (↑z : Int).toNat = (fsA T w (coL T)).3 (↑z : Int).toNat → rI ((↑z : Int) + (1 : Int)) ∧ ∃ (z_1 : Nat), egK T z_1 ∧ T.1 - z_1 < T.1 - z ∧ rE false ∧ T.1 = T.1 ∧ (eGG2 T w) ∧ T.1 = T.1 ∧ (eGG3 T w) ∧ T.1 = T.1 ∧ (eGG1 T w) ∧ rE (↑T.1 : Int) ∧ (↑z :
Int) + (1 : Int) = (↑z_1 : Int) ∧ True))))) ∧ (¬(↑z : Int) < (↑T.1 : Int) → rE true ∧ True)))))))))))))))) := by kernel_rfl
end Go.Proofs.Ytiighndfenlbdaa

set_option maxRecDepth 100000
namespace Go.Proofs.Ytiighndfenlbdaa
open Go Go.Lg
attribute [local irreducible] bodyH
def cgT (T : Tn) (a b : Nat → Int) : Tn := ⟨T.nb, T.rm, T.rt, T.fo, T.we, T.rv, T.re, T.wo, T.ti, T.nl, a, b⟩
section
variable {T : Tn} {a b : Nat → Int}
theorem cg_lv {s : St} {c : Int} : ∀ j, lvS (cgT T a b) s c j = lvS T s c j
 | 0 => rfl
 | j + 1 => by
  rw [lvS_succ, lvS_succ]
  unfold tkS
  rw [cg_lv j]
  rfl
theorem cg_tk {s : St} {c : Int} (j : Nat) : tkS (cgT T a b) s c j = tkS T s c j := by
 unfold tkS; rw [cg_lv]; rfl
theorem cg_ps {s : St} {c : Int} : psS (cgT T a b) s c = psS T s c := by
 unfold psS
 simp only [cg_tk]
theorem cg_st {W : Nat → Prop} {c : Nat → Int} : ∀ n, stA (cgT T a b) W c n = stA T W c n
 | 0 => rfl
 | n + 1 => by
  show psS (cgT T a b) (wtS (cgT T a b) W (stA (cgT T a b) W c n) n) (c n) = psS T (wtS T W (stA T W c n) n) (c n)
  rw [cg_st n, cg_ps]
  rfl
theorem cg_sl {W : Nat → Prop} {c : Nat → Int} {n : Nat} : slA (cgT T a b) W c n = slA T W c n := by
 unfold slA slS
 rw [cg_st, cg_lv]
 rfl
theorem cg_wr {W : Nat → Prop} {c : Nat → Int} {n : Nat} : wrA (cgT T a b) W c n ↔ wrA T W c n := by
 unfold wrA
 rw [cg_st]
 exact Iff.rfl
theorem fwR_congr {p q : Nat → Prop} (h : ∀ k, p k ↔ q k) : ∀ n k, fwR p n k = fwR q n k := by
 have : p = q := funext fun k => propext (h k)
 subst this
 exact fun _ _ => rfl
theorem cg_fw {w : Nat → Bool} : fwA (cgT T a b) w = fwA T w := fwR_congr (fun k => cg_wr.trans wr_sk) T.nl 0
end
section
variable {T : Tn} {w : Nat → Bool} (h : okR T w)
include h
theorem co_hi {k : Nat} (hk : k < T.nl) : coH T 0 k = T.hi k := by
 have := h.t.ld k hk
 show min (T.hi k + 0) 10000 = T.hi k
 omega
theorem co_lo {k : Nat} (hk : k < T.nl) : coH (lowT T) 0 k = T.lo k := by
 have := h.t.ld k hk
 show min (T.lo k + 0) 10000 = T.lo k
 omega
theorem low_ok : okR (lowT T) w := ⟨⟨h.t.nb, h.t.rv, h.t.we, h.t.re, h.t.wo, h.t.ti, h.t.nl, h.t.bx, fun i hi => by
 have := h.t.ld i hi
 exact ⟨this.1, Int.le_refl _, by show T.lo i ≤ 10000; omega⟩⟩, (cg_fw (a := T.lo) (b := T.lo)).trans h.w⟩
theorem hig_ok : okR (higT T) w := ⟨⟨h.t.nb, h.t.rv, h.t.we, h.t.re, h.t.wo, h.t.ti, h.t.nl, h.t.bx, fun i hi => by
 have := h.t.ld i hi
 exact ⟨by show 0 ≤ T.hi i; omega, Int.le_refl _, this.2.2⟩⟩, (cg_fw (a := T.hi) (b := T.hi)).trans h.w⟩
omit h in
theorem lo_lo (k : Nat) : loA (lowT T) w k = loA T w k := cg_sl (a := T.lo) (b := T.lo)
theorem lo_hi {k : Nat} (hk : k < T.nl) : hiA (lowT T) w k = loA T w k :=
 (cg_sl (a := T.lo) (b := T.lo)).trans (sl_eq fun j hj => co_lo h (by omega))
theorem hi_lo {k : Nat} (hk : k < T.nl) : loA (higT T) w k = hiA T w k :=
 (cg_sl (a := T.hi) (b := T.hi)).trans (sl_eq fun j hj => (co_hi h (by omega)).symm)
omit h in
theorem hi_hi (k : Nat) : hiA (higT T) w k = hiA T w k := cg_sl (a := T.hi) (b := T.hi)
theorem fs_lolo : fsA (lowT T) w (coL (lowT T)) = fsA T w (coL T) := by
 rw [fs_end h.w, fs_end (low_ok h).w]
 exact cg_st (a := T.lo) (b := T.lo) _
theorem fs_lohi : fsA (lowT T) w (coH (lowT T) 0) = fsA T w (coL T) := by
 rw [fs_end h.w, fs_end (low_ok h).w]
 exact (cg_st (a := T.lo) (b := T.lo) _).trans (st_eq fun j hj => co_lo h hj)
theorem fs_hilo : fsA (higT T) w (coL (higT T)) = fsA T w (coH T 0) := by
 rw [fs_end h.w, fs_end (hig_ok h).w]
 exact (cg_st (a := T.hi) (b := T.hi) _).trans (st_eq fun j hj => (co_hi h hj).symm)
theorem fs_hihi : fsA (higT T) w (coH (higT T) 0) = fsA T w (coH T 0) := by
 rw [fs_end h.w, fs_end (hig_ok h).w]
 exact cg_st (a := T.hi) (b := T.hi) _
theorem lo_le {k : Nat} (hk : k < T.nl) : loA T w k ≤ hiA T w k := sl_le fun j hj => by
 have := h.t.ld j (by omega)
 rw [co_hi h (by omega)]
 show T.lo j ≤ T.hi j
 omega
theorem lo_nn {k : Nat} (hk : k < T.nl) : 0 ≤ loA T w k := by
 have hnl := h.t.nl
 exact (sl_in h.t (by omega) (fun j hj => (h.t.ld j (by omega)).1) (fun j hj => fw_a (by rw [h.w]; omega))).1
theorem fs_bx (i : Nat) : (fsA T w (coH T 0)).bx i = (fsA T w (coL T)).bx i := by
 rw [fs_end h.w, fs_end h.w]
 have := st_sk (T := T) (w := tW w) (c := coH T 0) (d := coL T) T.nl
 rw [this.bx]
end
theorem nt {p : Prop} (h : ¬ True) : p := (h trivial).elim
theorem nx_i (f : Nat → Int) {z i : Nat} (hi : i < z + 1) : (if i < z then f i else f z) = f i := by
 by_cases h : i < z
 ·rw [if_pos h]
 ·rw [if_neg h, show i = z by omega]
theorem eG_true {T : Tn} {w : Nat → Bool} (h : okR T w) : eGG T w := by
 rw [eGG_vc]
 simp only [eGG0, eGG1, eGG2, eGG3, eGG4, eGG5, rI, rE, tt3, tt4, tt5, tt13, tt14, rI, rE, tt3, tt4, tt5, tt13, tt14, and_true, true_and, implies_true]
 have hnl := h.t.nl
 have hnb := h.t.nb
 refine ⟨by omega, T, rfl, fun _ _ => ⟨by omega, T, w, ⟨rfl, rfl, h⟩, by omega, T, w, ⟨rfl, rfl, h⟩, fun hn => (hn trivial).elim, fun _ => ⟨⟨by omega, by omega, ⟨rfl, fun i hi => rfl, rfl, fun i hi => rfl⟩, ⟨rfl, fun i hi => rfl, rfl, fun i hi => rfl⟩⟩, fun _ _ => ⟨by omega, ⟨0, ⟨by omega⟩, rfl, rfl, rfl, rfl, rfl⟩, fun z hz => ⟨fun hl => ?_, fun hl => ?_⟩⟩⟩⟩⟩
 ·refine ⟨by omega, hl, ⟨by omega, by omega, by omega, by omega, by omega, by omega, by omega, by omega, by omega, by omega, z, ⟨⟨by omega⟩, rfl⟩, rfl, rfl, rfl, rfl, ?_, rfl, ?_⟩, ?_⟩
  ·exact fun i hi => ⟨nx_i T.lo hi, nx_i T.lo hi⟩
  ·exact fun i hi => ⟨nx_i T.hi hi, nx_i T.hi hi⟩
  ·intro z' hz'
   obtain ⟨hz1, hz2⟩ := hz'
   have hz1 := hz1.a
   have hz2 : z' = z := hz2
   exact ⟨by omega, z + 1, ⟨by omega⟩, by omega, by omega, by omega, by omega, by omega, by omega⟩
 ·have hz2 := hz.a
  obtain rfl : z = T.nl := by omega
  refine ⟨by omega, by omega, lowT T, w, ⟨rfl, rfl, low_ok h⟩, by omega, by omega, higT T, w, ⟨rfl, rfl, hig_ok h⟩, by omega, by omega, lowT T, w, ⟨rfl, rfl, low_ok h⟩, by omega, by omega, higT T, w, ⟨rfl, rfl, hig_ok h⟩, ?_⟩
  refine ⟨nt, fun _ => ⟨nt, fun _ => ⟨nt, fun _ => ⟨nt, fun _ => ⟨nt, fun _ => ⟨fun hn => (hn rfl).elim, fun _ => ⟨fun hn => (hn rfl).elim, fun _ => ⟨fun hn => (hn rfl).elim, fun _ => ⟨fun hn => (hn rfl).elim, fun _ => ⟨⟨0, ⟨by omega⟩, rfl, fun i hi => rfl, rfl, fun i hi => rfl, rfl, fun i hi => rfl, rfl, fun i hi => rfl, rfl⟩, fun z hz => ⟨fun hl => ?_, fun _ => ⟨⟨0, ⟨by omega⟩, rfl⟩, fun z hz hl => ?_⟩⟩⟩⟩⟩⟩⟩⟩⟩⟩⟩⟩
  ·have hk : z < T.nl := by omega
   refine ⟨by omega, hl, by omega, hl, by omega, by omega, fun hn => (hn ⟨lo_lo z, lo_hi h hk⟩).elim, fun _ => ⟨by omega, hl, by omega, by omega, fun hn => (hn ⟨hi_lo h hk, hi_hi z⟩).elim, fun _ => ⟨by omega, by omega, fun hn => ?_, fun _ => ⟨by omega, fun hn => ?_, fun _ => ⟨by omega, z + 1, ⟨by omega⟩, by omega, by omega⟩⟩⟩⟩⟩
   ·have hn : hiA T w z < loA T w z := hn
    have := lo_le h hk
    omega
   ·have hn : loA T w z < 0 := hn
    have := lo_nn h hk
    omega
  ·have hk : z < T.nb := by omega
   simp only [fs_lolo h, fs_lohi h, fs_hilo h, fs_hihi h]
   refine ⟨by omega, hl, by omega, hl, by omega, by omega, fun hn => (hn ⟨trivial, trivial⟩).elim, fun _ => ⟨by omega, hl, by omega, by omega, fun hn => (hn ⟨trivial, trivial⟩).elim, fun _ => ⟨by omega, hl, by omega, nt, fun _ => ⟨by omega, hl, by omega, fun hn => (hn (fs_bx h z)).elim, fun _ => ⟨by omega, z + 1, ⟨by omega⟩, by omega, by omega⟩⟩⟩⟩⟩
end Go.Proofs.Ytiighndfenlbdaa
