import Derived.Test.YtnbeifpcmjnlkaaBiBiV
set_option linter.unusedVariables false
set_option linter.unusedSimpArgs false
set_option maxRecDepth 100000
namespace Go.Proofs.Ytnbeifpcmjnlkaa
open Go Go.Lg
attribute [local irreducible] bodyH
def awaC : Ctr := ⟨11, fun args k => match args with
  | [] => k (.bool true)
  | _ => False⟩
def anB (L : List Nat) (v : Int) (i : Nat) : Bool := (L.take i).any fun y => decide ((y : Int) = v)
noncomputable def csPr : CSpec := ctrs [awaC, wroC, tghC, whyC, valC hPlant, sumC, spaC]
noncomputable def prvL (b : Bool) (p : Pl) (fi : Int) : Nat → Option HSpec :=
  twoL 0 (natH (fun i => i ≤ (wrL p).length ∧ okP p ∧ wrE p = 0) (fun i => (wrL p).length - i) 1 (fun i => mkF 319 [(1, i6 fi), (3, .ptr 0 0 0), (7, lstI (wrL p)), (8, i6 (wrE p)), (9, spN (okN p) (tgE false p) (tgE true p)), (10, i6 (chE p)), (11, lstI (whL p fi b)), (12, i6 (whE p fi b)), (13, i6 i)]) (fun _ => mkX [vr 2 p.sv]) fun _ => none) <|
  oneL 2 (natH (fun i => i ≤ (whL p fi b).length ∧ (0 ≤ fi ∧ fi < p.f.n) ∧ okP p ∧ Hof p ∧ whE p fi b = 0) (fun i => (whL p fi b).length - i) 2 (fun i => mkF 319 [(1, i6 fi), (2, .bool b), (3, .ptr 0 0 0), (11, lstI (whL p fi b)), (14, .ptr 1 0 0), (15, i6 (tgE b p fi.toNat)), (16, i6 (own b p.f fi.toNat)), (17, dB (anB (whL p fi b) (p.f.fr fi.toNat) i)), (18, dB (anB (whL p fi b) (p.f.to fi.toNat) i)), (19, i6 i)]) (fun _ => mkX [vr 2 p.sv, vr 4 (p.f.el fi.toNat)]) fun _ => none)
noncomputable def prvG (b : Bool) (p : Pl) (i : Int) : Prop := funH Try.prog csPr noX (ictrs []) (prvL b p i) noL 7 [p.sv, i6 i, .bool b] (.bool true)
noncomputable def prvf (p : Pl) (i : Int) : Prop := prvG false p i
noncomputable def prvt (p : Pl) (i : Int) : Prop := prvG true p i
end Go.Proofs.Ytnbeifpcmjnlkaa

set_option maxRecDepth 100000
namespace Go.Proofs.Ytnbeifpcmjnlkaa
open Go Go.Lg
theorem prvf_vc (p : Pl) (i : Int) : prvf p i =
 ((0 : Nat) < (1 : Nat) ∧ ((20 : Int) < (↑p.f.1 : Int) → rE true ∧ True) ∧ (¬(20 : Int) < (↑p.f.1 : Int) → (0 : Nat) < (1 : Nat) ∧ (∀ (i : Nat), i < p.f.1 → True ∧ True ∧ True ∧ True ∧ True) ∧ SV.agg [SV.int IntKind.i64 p.k, SV.lst (4 : Nat) p.f.n p.f.el] = (pOf (SV.agg [SV.int IntKind.i64 p.k, SV.lst (4 : Nat) p.f.n p.f.el])).sv ∧ (0 : Nat) < (1 : Nat) ∧ (∀ (i : Nat), i < p.f.1 → True ∧ True ∧ True ∧ True ∧ True) ∧ SV.agg [SV.int IntKind.i64 p.k, SV.lst (4 : Nat) p.f.n p.f.el] = (pOf (SV.agg [SV.int IntKind.i64 p.k, SV.lst (4 : Nat) p.f.n p.f.el])).sv ∧ (0 : Nat) < (1 : Nat) ∧ (∀ (i : Nat), i < p.f.1 → True ∧ True ∧ True ∧ True ∧ True) ∧ SV.agg [SV.int IntKind.i64 p.k, SV.lst (4 : Nat) p.f.n p.f.el] = (pOf (SV.agg [SV.int IntKind.i64 p.k, SV.lst (4 : Nat) p.f.n p.f.el])).sv ∧ (wrE (pOf (SV.agg [SV.int IntKind.i64 p.k, SV.lst (4 : Nat) p.f.n p.f.el])) = (1 : Int) → (wrE (pOf (SV.agg
 [SV.int IntKind.i64 p.k, SV.lst (4 : Nat) p.f.n p.f.el])) = (1 : Int) → (chE (pOf (SV.agg [SV.int IntKind.i64 p.k, SV.lst (4 : Nat) p.f.n p.f.el])) = wrE (pOf (SV.agg [SV.int IntKind.i64 p.k, SV.lst (4 : Nat) p.f.n p.f.el])) → (whE (pOf (SV.agg [SV.int IntKind.i64 p.k, SV.lst (4 : Nat) p.f.n p.f.el])) i false = wrE (pOf (SV.agg [SV.int IntKind.i64 p.k, SV.lst (4 : Nat) p.f.n p.f.el])) → ((↑(wrL (pOf (SV.agg [SV.int IntKind.i64 p.k, SV.lst (4 : Nat) p.f.n p.f.el]))).length : Int) = (0 : Int) → ((↑(okN (pOf (SV.agg [SV.int IntKind.i64 p.k, SV.lst (4 : Nat) p.f.n p.f.el]))) : Int) = (0 : Int) → ((↑(whL (pOf (SV.agg [SV.int IntKind.i64 p.k, SV.lst (4 : Nat) p.f.n p.f.el])) i false).length : Int) = (0 : Int) → rE true ∧ True) ∧ (¬(↑(whL (pOf (SV.agg [SV.int IntKind.i64 p.k, SV.lst (4 : Nat) p.f.n p.f.el])) i false).length : Int) = (0 : Int) → false = true ∧ True)) ∧ (¬(↑(okN (pOf (SV.agg
 [SV.int IntKind.i64 p.k, SV.lst (4 : Nat) p.f.n p.f.el]))) : Int) = (0 : Int) → false = true ∧ True)) ∧ (¬(↑(wrL (pOf (SV.agg [SV.int IntKind.i64 p.k, SV.lst (4 : Nat) p.f.n p.f.el]))).length : Int) = (0 : Int) → false = true ∧ True)) ∧ (¬whE (pOf (SV.agg [SV.int IntKind.i64 p.k, SV.lst (4 : Nat) p.f.n p.f.el])) i false = wrE (pOf (SV.agg [SV.int IntKind.i64 p.k, SV.lst (4 : Nat) p.f.n p.f.el])) → false = true ∧ True)) ∧ (¬chE (pOf (SV.agg [SV.int IntKind.i64 p.k, SV.lst (4 : Nat) p.f.n p.f.el])) = wrE (pOf (SV.agg [SV.int IntKind.i64 p.k, SV.lst (4 : Nat) p.f.n p.f.el])) → false = true ∧ True)) ∧ (¬wrE (pOf (SV.agg [SV.int IntKind.i64 p.k, SV.lst (4 : Nat) p.f.n p.f.el])) = (1 : Int) → false = true ∧ True)) ∧ (¬wrE (pOf (SV.agg [SV.int IntKind.i64 p.k, SV.lst (4 : Nat) p.f.n p.f.el])) = (1 : Int) → (0 : Nat) < (1 : Nat) ∧ (∀ (i : Nat), i < p.f.1 → True ∧ True ∧ True ∧ True ∧ True) ∧
 SV.agg [SV.int IntKind.i64 p.k, SV.lst (4 : Nat) p.f.n p.f.el] = (pOf (SV.agg [SV.int IntKind.i64 p.k, SV.lst (4 : Nat) p.f.n p.f.el])).sv ∧ (¬okP (pOf (SV.agg [SV.int IntKind.i64 p.k, SV.lst (4 : Nat) p.f.n p.f.el])) → (wrE (pOf (SV.agg [SV.int IntKind.i64 p.k, SV.lst (4 : Nat) p.f.n p.f.el])) = (1 : Int) → (chE (pOf (SV.agg [SV.int IntKind.i64 p.k, SV.lst (4 : Nat) p.f.n p.f.el])) = wrE (pOf (SV.agg [SV.int IntKind.i64 p.k, SV.lst (4 : Nat) p.f.n p.f.el])) → (whE (pOf (SV.agg [SV.int IntKind.i64 p.k, SV.lst (4 : Nat) p.f.n p.f.el])) i false = wrE (pOf (SV.agg [SV.int IntKind.i64 p.k, SV.lst (4 : Nat) p.f.n p.f.el])) → ((↑(wrL (pOf (SV.agg [SV.int IntKind.i64 p.k, SV.lst (4 : Nat) p.f.n p.f.el]))).length : Int) = (0 : Int) → ((↑(okN (pOf (SV.agg [SV.int IntKind.i64 p.k, SV.lst (4 : Nat) p.f.n p.f.el]))) : Int) = (0 : Int) → ((↑(whL (pOf (SV.agg [SV.int IntKind.i64 p.k, SV.lst (4 : Nat)
 p.f.n p.f.el])) i false).length : Int) = (0 : Int) → rE true ∧ True) ∧ (¬(↑(whL (pOf (SV.agg [SV.int IntKind.i64 p.k, SV.lst (4 : Nat) p.f.n p.f.el])) i false).length : Int) = (0 : Int) → false = true ∧ True)) ∧ (¬(↑(okN (pOf (SV.agg [SV.int IntKind.i64 p.k, SV.lst (4 : Nat) p.f.n p.f.el]))) : Int) = (0 : Int) → false = true ∧ True)) ∧ (¬(↑(wrL (pOf (SV.agg [SV.int IntKind.i64 p.k, SV.lst (4 : Nat) p.f.n p.f.el]))).length : Int) = (0 : Int) → false = true ∧ True)) ∧ (¬whE (pOf (SV.agg [SV.int IntKind.i64 p.k, SV.lst (4 : Nat) p.f.n p.f.el])) i false = wrE (pOf (SV.agg [SV.int IntKind.i64 p.k, SV.lst (4 : Nat) p.f.n p.f.el])) → false = true ∧ True)) ∧ (¬chE (pOf (SV.agg [SV.int IntKind.i64 p.k, SV.lst (4 : Nat) p.f.n p.f.el])) = wrE (pOf (SV.agg [SV.int IntKind.i64 p.k, SV.lst (4 : Nat) p.f.n p.f.el])) → false = true ∧ True)) ∧ (¬wrE (pOf (SV.agg [SV.int IntKind.i64 p.k, SV.lst (4 : Nat)
 p.f.n p.f.el])) = (1 : Int) → false = true ∧ True)) ∧ (¬¬okP (pOf (SV.agg [SV.int IntKind.i64 p.k, SV.lst (4 : Nat) p.f.n p.f.el])) → (wrE (pOf (SV.agg [SV.int IntKind.i64 p.k, SV.lst (4 : Nat) p.f.n p.f.el])) = (0 : Int) → (∃ z, (z ≤ (wrL p).length ∧ okP p ∧ wrE p = (0 : Int)) ∧ i = i ∧ rE (0 : Nat) ∧ rE (0 : Nat) ∧ (wrL (pOf (SV.agg [SV.int IntKind.i64 p.k, SV.lst (4 : Nat) p.f.n p.f.el]))).length = (wrL p).length ∧ (∀ (i : Nat), i < (wrL p).length → (i6 (↑((wrL (pOf (SV.agg [SV.int IntKind.i64 p.k, SV.lst (4 : Nat) p.f.n p.f.el]))).getD i (0 : Nat)) : Int)).den = (i6 (↑((wrL p).getD i (0 : Nat)) : Int)).den ∧ True) ∧ wrE (pOf (SV.agg [SV.int IntKind.i64 p.k, SV.lst (4 : Nat) p.f.n p.f.el])) = wrE p ∧ okN (pOf (SV.agg [SV.int IntKind.i64 p.k, SV.lst (4 : Nat) p.f.n p.f.el])) = okN p ∧ (∀ (i : Nat), i < okN p → (SV.agg [i6 (tgE false (pOf (SV.agg [SV.int IntKind.i64 p.k, SV.lst (4 :
 Nat) p.f.n p.f.el])) i), i6 (tgE true (pOf (SV.agg [SV.int IntKind.i64 p.k, SV.lst (4 : Nat) p.f.n p.f.el])) i)]).den = (SV.agg [i6 (tgE false p i), i6 (tgE true p i)]).den ∧ True ∧ True ∧ True) ∧ chE (pOf (SV.agg [SV.int IntKind.i64 p.k, SV.lst (4 : Nat) p.f.n p.f.el])) = chE p ∧ (whL (pOf (SV.agg [SV.int IntKind.i64 p.k, SV.lst (4 : Nat) p.f.n p.f.el])) i false).length = (whL p i false).length ∧ (∀ (i_1 : Nat), i_1 < (whL p i false).length → (i6 (↑((whL (pOf (SV.agg [SV.int IntKind.i64 p.k, SV.lst (4 : Nat) p.f.n p.f.el])) i false).getD i_1 (0 : Nat)) : Int)).den = (i6 (↑((whL p i false).getD i_1 (0 : Nat)) : Int)).den ∧ True) ∧ whE (pOf (SV.agg [SV.int IntKind.i64 p.k, SV.lst (4 : Nat) p.f.n p.f.el])) i false = whE p i false ∧ (0 : Int) = (↑z : Int) ∧ p.1 = p.1 ∧ rE p.f.1 ∧ (∀ (i : Nat), i < p.f.1 → rE ((p.f.el i).den) ∧ True ∧ True ∧ True ∧ True ∧ True) ∧ True) ∧ ∀ (z : Nat), z ≤
 (wrL p).length ∧ okP p ∧ wrE p = (0 : Int) → ((↑z : Int) < (↑(wrL p).length : Int) → (0 : Int) ≤ (↑z : Int) ∧ (↑z : Int) < (↑(wrL p).length : Int) ∧ ((↑((wrL p).getD (↑z : Int).toNat (0 : Nat)) : Int) < (0 : Int) → false = true ∧ True) ∧ (¬(↑((wrL p).getD (↑z : Int).toNat (0 : Nat)) : Int) < (0 : Int) → (0 : Int) ≤ (↑z : Int) ∧ (↑z : Int) < (↑(wrL p).length : Int) ∧ (0 : Nat) < (1 : Nat) ∧ (p.1 ≤ (↑((wrL p).getD (↑z : Int).toNat (0 : Nat)) : Int) → false = true ∧ True) ∧ (¬p.1 ≤ (↑((wrL p).getD (↑z : Int).toNat (0 : Nat)) : Int) → ((0 : Int) < (↑z : Int) → (0 : Int) ≤ (↑z : Int) ∧ (↑z : Int) < (↑(wrL p).length : Int) ∧ rI ((↑z : Int) - (1 : Int)) ∧ (0 : Int) ≤ (↑z : Int) - (1 : Int) ∧ (↑z : Int) - (1 : Int) < (↑(wrL p).length : Int) ∧ ((↑((wrL p).getD (↑z : Int).toNat (0 : Nat)) : Int) ≤ (↑((wrL p).getD ((↑z : Int) - (1 : Int)).toNat (0 : Nat)) : Int) → false = true ∧ True) ∧ (¬(↑((wrL
 p).getD (↑z : Int).toNat (0 : Nat)) : Int) ≤ (↑((wrL p).getD ((↑z : Int) - (1 : Int)).toNat (0 : Nat)) : Int) → rI ((↑z : Int) + (1 : Int)) ∧ ∃ z_1, (z_1 ≤ (wrL p).length ∧ okP p ∧ wrE p = (0 : Int)) ∧ (wrL p).length - z_1 < (wrL p).length - z ∧ i = i ∧ rE (0 : Nat) ∧ rE (0 : Nat) ∧ rE ((wrL p).length) ∧ (∀ (i : Nat), i < (wrL p).length → rE ((i6 (↑((wrL p).getD i (0 : Nat)) : Int)).den) ∧ True) ∧ rE (wrE p) ∧ rE (okN p) ∧ (∀ (i : Nat), i < okN p → rE ((SV.agg [i6 (tgE false p i), i6 (tgE true p i)]).den) ∧ True ∧ True ∧ True) ∧ rE (chE p) ∧ rE ((whL p i false).length) ∧ (∀ (i_1 : Nat), i_1 < (whL p i false).length → rE ((i6 (↑((whL p i false).getD i_1 (0 : Nat)) : Int)).den) ∧ True) ∧ rE (whE p i false) ∧ (↑z : Int) + (1 : Int) = (↑z_1 : Int) ∧ p.1 = p.1 ∧ rE p.f.1 ∧ (∀ (i : Nat), i < p.f.1 → rE ((p.f.el i).den) ∧ True ∧ True ∧ True ∧ True ∧ True) ∧ True)) ∧ (¬(0 : Int) < (↑z : Int) →
 rI ((↑z : Int) + (1 : Int)) ∧ ∃ z_1, (z_1 ≤ (wrL p).length ∧ okP p ∧ wrE p = (0 : Int)) ∧ (wrL p).length - z_1 < (wrL p).length - z ∧ i = i ∧ rE (0 : Nat) ∧ rE (0 : Nat) ∧ rE ((wrL p).length) ∧ (∀ (i : Nat), i < (wrL p).length → rE ((i6 (↑((wrL p).getD i (0 : Nat)) : Int)).den) ∧ True) ∧ rE (wrE p) ∧ rE (okN p) ∧ (∀ (i : Nat), i < okN p → rE ((SV.agg [i6 (tgE false p i), i6 (tgE true p i)]).den) ∧ True ∧ True ∧ True) ∧ rE (chE p) ∧ rE ((whL p i false).length) ∧ (∀ (i_1 : Nat), i_1 < (whL p i false).length → rE ((i6 (↑((whL p i false).getD i_1 (0 : Nat)) : Int)).den) ∧ True) ∧ rE (whE p i false) ∧ (↑z : Int) + (1 : Int) = (↑z_1 : Int) ∧ p.1 = p.1 ∧ rE p.f.1 ∧ (∀ (i : Nat), i < p.f.1 → rE ((p.f.el i).den) ∧ True ∧ True ∧ True ∧ True ∧ True) ∧ True)))) ∧ (¬(↑z : Int) < (↑(wrL p).length : Int) → (chE p = (6 : Int) → (0 : Nat) < (1 : Nat) ∧ (∀ (i : Nat), i < p.f.1 → True ∧ True ∧ True ∧ True
 ∧ True) ∧ (∀ (i : Nat), i < (wrL p).length → True) ∧ SV.agg [SV.int IntKind.i64 p.k, SV.lst (4 : Nat) p.f.n p.f.el] = (pOf (SV.agg [SV.int IntKind.i64 p.k, SV.lst (4 : Nat) p.f.n p.f.el])).sv ∧ okG (pOf (SV.agg [SV.int IntKind.i64 p.k, SV.lst (4 : Nat) p.f.n p.f.el])) ∧ ∃ L, (SV.lst (1 : Nat) (wrL p).length fun k => i6 (↑((wrL p).getD k (0 : Nat)) : Int)) = lstI L ∧ (L.length ≤ (1000 : Nat) ∧ ∀ (y : Nat), List.Mem y L → y < (16 : Nat)) ∧ (0 : Nat) < (1 : Nat) ∧ (∀ (i : Nat), i < p.f.1 → True ∧ True ∧ True ∧ True ∧ True) ∧ (∀ (i : Nat), i < (wrL p).length → True) ∧ SV.agg [SV.int IntKind.i64 p.k, SV.lst (4 : Nat) p.f.n p.f.el] = (pOf (SV.agg [SV.int IntKind.i64 p.k, SV.lst (4 : Nat) p.f.n p.f.el])).sv ∧ okG (pOf (SV.agg [SV.int IntKind.i64 p.k, SV.lst (4 : Nat) p.f.n p.f.el])) ∧ ∃ L_1, (SV.lst (1 : Nat) (wrL p).length fun k => i6 (↑((wrL p).getD k (0 : Nat)) : Int)) = lstI L_1 ∧
 (L_1.length ≤ (1000 : Nat) ∧ ∀ (y : Nat), List.Mem y L_1 → y < (16 : Nat)) ∧ (suH (pOf (SV.agg [SV.int IntKind.i64 p.k, SV.lst (4 : Nat) p.f.n p.f.el])) L_1 true (-1 : Int) < suL (pOf (SV.agg [SV.int IntKind.i64 p.k, SV.lst (4 : Nat) p.f.n p.f.el])) L false (-1 : Int) → (whE p i false = (6 : Int) → rE true ∧ True) ∧ (¬whE p i false = (6 : Int) → (whE p i false = (2 : Int) → (i < (0 : Int) → rE true ∧ True) ∧ (¬i < (0 : Int) → (0 : Nat) < (1 : Nat) ∧ ((↑p.f.1 : Int) ≤ i → rE true ∧ True) ∧ (¬(↑p.f.1 : Int) ≤ i → false = true ∧ True))) ∧ (¬whE p i false = (2 : Int) → false = true ∧ True))) ∧ (¬suH (pOf (SV.agg [SV.int IntKind.i64 p.k, SV.lst (4 : Nat) p.f.n p.f.el])) L_1 true (-1 : Int) < suL (pOf (SV.agg [SV.int IntKind.i64 p.k, SV.lst (4 : Nat) p.f.n p.f.el])) L false (-1 : Int) → false = true ∧ True)) ∧ (¬chE p = (6 : Int) → false = true ∧ True))) ∧ (¬wrE (pOf (SV.agg [SV.int
 IntKind.i64 p.k, SV.lst (4 : Nat) p.f.n p.f.el])) = (0 : Int) → (¬wrE (pOf (SV.agg [SV.int IntKind.i64 p.k, SV.lst (4 : Nat) p.f.n p.f.el])) = (4 : Int) → false = true ∧ True) ∧ (¬¬wrE (pOf (SV.agg [SV.int IntKind.i64 p.k, SV.lst (4 : Nat) p.f.n p.f.el])) = (4 : Int) → (¬chE (pOf (SV.agg [SV.int IntKind.i64 p.k, SV.lst (4 : Nat) p.f.n p.f.el])) = (0 : Int) → false = true ∧ True) ∧ (¬¬chE (pOf (SV.agg [SV.int IntKind.i64 p.k, SV.lst (4 : Nat) p.f.n p.f.el])) = (0 : Int) → (0 : Nat) < (1 : Nat) ∧ (¬(↑(okN (pOf (SV.agg [SV.int IntKind.i64 p.k, SV.lst (4 : Nat) p.f.n p.f.el]))) : Int) = (↑p.f.1 : Int) → false = true ∧ True) ∧ (¬¬(↑(okN (pOf (SV.agg [SV.int IntKind.i64 p.k, SV.lst (4 : Nat) p.f.n p.f.el]))) : Int) = (↑p.f.1 : Int) → (i < (0 : Int) → (whE (pOf (SV.agg [SV.int IntKind.i64 p.k, SV.lst (4 : Nat) p.f.n p.f.el])) i false = (2 : Int) → ((↑(whL (pOf (SV.agg [SV.int IntKind.i64 p.k,
 SV.lst (4 : Nat) p.f.n p.f.el])) i false).length : Int) = (0 : Int) → rE true ∧ True) ∧ (¬(↑(whL (pOf (SV.agg [SV.int IntKind.i64 p.k, SV.lst (4 : Nat) p.f.n p.f.el])) i false).length : Int) = (0 : Int) → false = true ∧ True)) ∧ (¬whE (pOf (SV.agg [SV.int IntKind.i64 p.k, SV.lst (4 : Nat) p.f.n p.f.el])) i false = (2 : Int) → false = true ∧ True)) ∧ (¬i < (0 : Int) → ((↑(okN (pOf (SV.agg [SV.int IntKind.i64 p.k, SV.lst (4 : Nat) p.f.n p.f.el]))) : Int) ≤ i → (whE (pOf (SV.agg [SV.int IntKind.i64 p.k, SV.lst (4 : Nat) p.f.n p.f.el])) i false = (2 : Int) → ((↑(whL (pOf (SV.agg [SV.int IntKind.i64 p.k, SV.lst (4 : Nat) p.f.n p.f.el])) i false).length : Int) = (0 : Int) → rE true ∧ True) ∧ (¬(↑(whL (pOf (SV.agg [SV.int IntKind.i64 p.k, SV.lst (4 : Nat) p.f.n p.f.el])) i false).length : Int) = (0 : Int) → false = true ∧ True)) ∧ (¬whE (pOf (SV.agg [SV.int IntKind.i64 p.k, SV.lst (4 : Nat)
 p.f.n p.f.el])) i false = (2 : Int) → false = true ∧ True)) ∧ (¬(↑(okN (pOf (SV.agg [SV.int IntKind.i64 p.k, SV.lst (4 : Nat) p.f.n p.f.el]))) : Int) ≤ i → (0 : Nat) < (1 : Nat) ∧ (0 : Int) ≤ i ∧ i < (↑p.f.1 : Int) ∧ (0 : Int) ≤ i ∧ i < (↑(okN (pOf (SV.agg [SV.int IntKind.i64 p.k, SV.lst (4 : Nat) p.f.n p.f.el]))) : Int) ∧ (0 : Nat) < (1 : Nat) ∧ (¬whE (pOf (SV.agg [SV.int IntKind.i64 p.k, SV.lst (4 : Nat) p.f.n p.f.el])) i false = (0 : Int) → (whE (pOf (SV.agg [SV.int IntKind.i64 p.k, SV.lst (4 : Nat) p.f.n p.f.el])) i false = (4 : Int) → ((↑(whL (pOf (SV.agg [SV.int IntKind.i64 p.k, SV.lst (4 : Nat) p.f.n p.f.el])) i false).length : Int) = (0 : Int) → (tgE false (pOf (SV.agg [SV.int IntKind.i64 p.k, SV.lst (4 : Nat) p.f.n p.f.el])) i.toNat = p.f.4 i.toNat → rE true ∧ True) ∧ (¬tgE false (pOf (SV.agg [SV.int IntKind.i64 p.k, SV.lst (4 : Nat) p.f.n p.f.el])) i.toNat = p.f.4 i.toNat →
 false = true ∧ True)) ∧ (¬(↑(whL (pOf (SV.agg [SV.int IntKind.i64 p.k, SV.lst (4 : Nat) p.f.n p.f.el])) i false).length : Int) = (0 : Int) → false = true ∧ True)) ∧ (¬whE (pOf (SV.agg [SV.int IntKind.i64 p.k, SV.lst (4 : Nat) p.f.n p.f.el])) i false = (4 : Int) → false = true ∧ True)) ∧ (¬¬whE (pOf (SV.agg [SV.int IntKind.i64 p.k, SV.lst (4 : Nat) p.f.n p.f.el])) i false = (0 : Int) → (∃ z, (z ≤ (whL p i false).length ∧ ((0 : Int) ≤ i ∧ i < (↑p.f.1 : Int)) ∧ okP p ∧ (∀ (s : Nat), s < pwk p.1 → bad p.f s = false) ∧ whE p i false = (0 : Int)) ∧ i = i ∧ rE false ∧ rE (0 : Nat) ∧ rE (0 : Nat) ∧ (whL (pOf (SV.agg [SV.int IntKind.i64 p.k, SV.lst (4 : Nat) p.f.n p.f.el])) i false).length = (whL p i false).length ∧ (∀ (i_1 : Nat), i_1 < (whL p i false).length → (i6 (↑((whL (pOf (SV.agg [SV.int IntKind.i64 p.k, SV.lst (4 : Nat) p.f.n p.f.el])) i false).getD i_1 (0 : Nat)) : Int)).den = (i6
 (↑((whL p i false).getD i_1 (0 : Nat)) : Int)).den ∧ True) ∧ rE (0 : Nat) ∧ rE (0 : Nat) ∧ tgE false (pOf (SV.agg [SV.int IntKind.i64 p.k, SV.lst (4 : Nat) p.f.n p.f.el])) i.toNat = tgE false p i.toNat ∧ p.f.4 i.toNat = own false p.f i.toNat ∧ (false = true ↔ anB (whL p i false) (p.f.fr i.toNat) z = true) ∧ (false = true ↔ anB (whL p i false) (p.f.to i.toNat) z = true) ∧ (0 : Int) = (↑z : Int) ∧ p.1 = p.1 ∧ rE p.f.1 ∧ (∀ (i : Nat), i < p.f.1 → rE ((p.f.el i).den) ∧ True ∧ True ∧ True ∧ True ∧ True) ∧ rE (p.f.2 i.toNat) ∧ rE (p.f.3 i.toNat) ∧ rE (p.f.4 i.toNat) ∧ rE (p.f.5 i.toNat) ∧ True) ∧ ∀ (z : Nat), z ≤ (whL p i false).length ∧ ((0 : Int) ≤ i ∧ i < (↑p.f.1 : Int)) ∧ okP p ∧ (∀ (s : Nat), s < pwk p.1 → bad p.f s = false) ∧ whE p i false = (0 : Int) → ((↑z : Int) < (↑(whL p i false).length : Int) → (0 : Int) ≤ (↑z : Int) ∧ (↑z : Int) < (↑(whL p i false).length : Int) ∧ ((↑((whL p i
 false).getD (↑z : Int).toNat (0 : Nat)) : Int) < (0 : Int) → false = true ∧ True) ∧ (¬(↑((whL p i false).getD (↑z : Int).toNat (0 : Nat)) : Int) < (0 : Int) → (0 : Int) ≤ (↑z : Int) ∧ (↑z : Int) < (↑(whL p i false).length : Int) ∧ (0 : Nat) < (1 : Nat) ∧ (p.1 ≤ (↑((whL p i false).getD (↑z : Int).toNat (0 : Nat)) : Int) → false = true ∧ True) ∧ (¬p.1 ≤ (↑((whL p i false).getD (↑z : Int).toNat (0 : Nat)) : Int) → ((0 : Int) < (↑z : Int) → (0 : Int) ≤ (↑z : Int) ∧ (↑z : Int) < (↑(whL p i false).length : Int) ∧ rI ((↑z : Int) - (1 : Int)) ∧ (0 : Int) ≤ (↑z : Int) - (1 : Int) ∧ (↑z : Int) - (1 : Int) < (↑(whL p i false).length : Int) ∧ ((↑((whL p i false).getD (↑z : Int).toNat (0 : Nat)) : Int) ≤ (↑((whL p i false).getD ((↑z : Int) - (1 : Int)).toNat (0 : Nat)) : Int) → false = true ∧ True) ∧ (¬(↑((whL p i false).getD (↑z : Int).toNat (0 : Nat)) : Int) ≤ (↑((whL p i false).getD ((↑z : Int) -
 (1 : Int)).toNat (0 : Nat)) : Int) → (anB (whL p i false) (p.f.fr i.toNat) z = true → (anB (whL p i false) (p.f.to i.toNat) z = true → rI ((↑z : Int) + (1 : Int)) ∧ ∃ z_1, (z_1 ≤ (whL p i false).length ∧ ((0 : Int) ≤ i ∧ i < (↑p.f.1 : Int)) ∧ okP p ∧ (∀ (s : Nat), s < pwk p.1 → bad p.f s = false) ∧ whE p i false = (0 : Int)) ∧ (whL p i false).length - z_1 < (whL p i false).length - z ∧ i = i ∧ rE false ∧ rE (0 : Nat) ∧ rE (0 : Nat) ∧ rE ((whL p i false).length) ∧ (∀ (i_1 : Nat), i_1 < (whL p i false).length → rE ((i6 (↑((whL p i false).getD i_1 (0 : Nat)) : Int)).den) ∧ True) ∧ rE (0 : Nat) ∧ rE (0 : Nat) ∧ rE (tgE false p i.toNat) ∧ rE (own false p.f i.toNat) ∧ (rE true ↔ anB (whL p i false) (p.f.fr i.toNat) z_1 = true) ∧ (rE true ↔ anB (whL p i false) (p.f.to i.toNat) z_1 = true) ∧ (↑z : Int) + (1 : Int) = (↑z_1 : Int) ∧ p.1 = p.1 ∧ rE p.f.1 ∧ (∀ (i : Nat), i < p.f.1 → rE ((p.f.el
 i).den) ∧ True ∧ True ∧ True ∧ True ∧ True) ∧ rE (p.f.2 i.toNat) ∧ rE (p.f.3 i.toNat) ∧ rE (p.f.4 i.toNat) ∧ rE (p.f.5 i.toNat) ∧ True) ∧ (¬anB (whL p i false) (p.f.to i.toNat) z = true → (0 : Int) ≤ (↑z : Int) ∧ (↑z : Int) < (↑(whL p i false).length : Int) ∧ (0 : Nat) < (1 : Nat) ∧ rI ((↑z : Int) + (1 : Int)) ∧ ∃ z_1, (z_1 ≤ (whL p i false).length ∧ ((0 : Int) ≤ i ∧ i < (↑p.f.1 : Int)) ∧ okP p ∧ (∀ (s : Nat), s < pwk p.1 → bad p.f s = false) ∧ whE p i false = (0 : Int)) ∧ (whL p i false).length - z_1 < (whL p i false).length - z ∧ i = i ∧ rE false ∧ rE (0 : Nat) ∧ rE (0 : Nat) ∧ rE ((whL p i false).length) ∧ (∀ (i_1 : Nat), i_1 < (whL p i false).length → rE ((i6 (↑((whL p i false).getD i_1 (0 : Nat)) : Int)).den) ∧ True) ∧ rE (0 : Nat) ∧ rE (0 : Nat) ∧ rE (tgE false p i.toNat) ∧ rE (own false p.f i.toNat) ∧ (rE true ↔ anB (whL p i false) (p.f.fr i.toNat) z_1 = true) ∧ ((↑((whL p i
 false).getD (↑z : Int).toNat (0 : Nat)) : Int) = p.f.3 i.toNat ↔ anB (whL p i false) (p.f.to i.toNat) z_1 = true) ∧ (↑z : Int) + (1 : Int) = (↑z_1 : Int) ∧ p.1 = p.1 ∧ rE p.f.1 ∧ (∀ (i : Nat), i < p.f.1 → rE ((p.f.el i).den) ∧ True ∧ True ∧ True ∧ True ∧ True) ∧ rE (p.f.2 i.toNat) ∧ rE (p.f.3 i.toNat) ∧ rE (p.f.4 i.toNat) ∧ rE (p.f.5 i.toNat) ∧ True)) ∧ (¬anB (whL p i false) (p.f.fr i.toNat) z = true → (0 : Int) ≤ (↑z : Int) ∧ (↑z : Int) < (↑(whL p i false).length : Int) ∧ (0 : Nat) < (1 : Nat) ∧ (anB (whL p i false) (p.f.to i.toNat) z = true → rI ((↑z : Int) + (1 : Int)) ∧ ∃ z_1, (z_1 ≤ (whL p i false).length ∧ ((0 : Int) ≤ i ∧ i < (↑p.f.1 : Int)) ∧ okP p ∧ (∀ (s : Nat), s < pwk p.1 → bad p.f s = false) ∧ whE p i false = (0 : Int)) ∧ (whL p i false).length - z_1 < (whL p i false).length - z ∧ i = i ∧ rE false ∧ rE (0 : Nat) ∧ rE (0 : Nat) ∧ rE ((whL p i false).length) ∧ (∀ (i_1 : Nat),
 i_1 < (whL p i false).length → rE ((i6 (↑((whL p i false).getD i_1 (0 : Nat)) : Int)).den) ∧ True) ∧ rE (0 : Nat) ∧ rE (0 : Nat) ∧ rE (tgE false p i.toNat) ∧ rE (own false p.f i.toNat) ∧ ((↑((whL p i false).getD (↑z : Int).toNat (0 : Nat)) : Int) = p.f.2 i.toNat ↔ anB (whL p i false) (p.f.fr i.toNat) z_1 = true) ∧ (rE true ↔ anB (whL p i false) (p.f.to i.toNat) z_1 = true) ∧ (↑z : Int) + (1 : Int) = (↑z_1 : Int) ∧ p.1 = p.1 ∧ rE p.f.1 ∧ (∀ (i : Nat), i < p.f.1 → rE ((p.f.el i).den) ∧ True ∧ True ∧ True ∧ True ∧ True) ∧ rE (p.f.2 i.toNat) ∧ rE (p.f.3 i.toNat) ∧ rE (p.f.4 i.toNat) ∧ rE (p.f.5 i.toNat) ∧ True) ∧ (¬anB (whL p i false) (p.f.to i.toNat) z = true → (0 : Int) ≤ (↑z : Int) ∧ (↑z : Int) < (↑(whL p i false).length : Int) ∧ (0 : Nat) < (1 : Nat) ∧ rI ((↑z : Int) + (1 : Int)) ∧ ∃ z_1, (z_1 ≤ (whL p i false).length ∧ ((0 : Int) ≤ i ∧ i < (↑p.f.1 : Int)) ∧ okP p ∧ (∀ (s : Nat), s <
 pwk p.1 → bad p.f s = false) ∧ whE p i false = (0 : Int)) ∧ (whL p i false).length - z_1 < (whL p i false).length - z ∧ i = i ∧ rE false ∧ rE (0 : Nat) ∧ rE (0 : Nat) ∧ rE ((whL p i false).length) ∧ (∀ (i_1 : Nat), i_1 < (whL p i false).length → rE ((i6 (↑((whL p i false).getD i_1 (0 : Nat)) : Int)).den) ∧ True) ∧ rE (0 : Nat) ∧ rE (0 : Nat) ∧ rE (tgE false p i.toNat) ∧ rE (own false p.f i.toNat) ∧ ((↑((whL p i false).getD (↑z : Int).toNat (0 : Nat)) : Int) = p.f.2 i.toNat ↔ anB (whL p i false) (p.f.fr i.toNat) z_1 = true) ∧ ((↑((whL p i false).getD (↑z : Int).toNat (0 : Nat)) : Int) = p.f.3 i.toNat ↔ anB (whL p i false) (p.f.to i.toNat) z_1 = true) ∧ (↑z : Int) + (1 : Int) = (↑z_1 : Int) ∧ p.1 = p.1 ∧ rE p.f.1 ∧ (∀ (i : Nat), i < p.f.1 → rE ((p.f.el i).den) ∧ True ∧ True ∧ True ∧ True ∧ True) ∧ rE (p.f.2 i.toNat) ∧ rE (p.f.3 i.toNat) ∧ rE (p.f.4 i.toNat) ∧ rE (p.f.5 i.toNat) ∧ True))))
 ∧ (¬(0 : Int) < (↑z : Int) → (anB (whL p i false) (p.f.fr i.toNat) z = true → (anB (whL p i false) (p.f.to i.toNat) z = true → rI ((↑z : Int) + (1 : Int)) ∧ ∃ z_1, (z_1 ≤ (whL p i false).length ∧ ((0 : Int) ≤ i ∧ i < (↑p.f.1 : Int)) ∧ okP p ∧ (∀ (s : Nat), s < pwk p.1 → bad p.f s = false) ∧ whE p i false = (0 : Int)) ∧ (whL p i false).length - z_1 < (whL p i false).length - z ∧ i = i ∧ rE false ∧ rE (0 : Nat) ∧ rE (0 : Nat) ∧ rE ((whL p i false).length) ∧ (∀ (i_1 : Nat), i_1 < (whL p i false).length → rE ((i6 (↑((whL p i false).getD i_1 (0 : Nat)) : Int)).den) ∧ True) ∧ rE (0 : Nat) ∧ rE (0 : Nat) ∧ rE (tgE false p i.toNat) ∧ rE (own false p.f i.toNat) ∧ (rE true ↔ anB (whL p i false) (p.f.fr i.toNat) z_1 = true) ∧ (rE true ↔ anB (whL p i false) (p.f.to i.toNat) z_1 = true) ∧ (↑z : Int) + (1 : Int) = (↑z_1 : Int) ∧ p.1 = p.1 ∧ rE p.f.1 ∧ (∀ (i : Nat), i < p.f.1 → rE ((p.f.el i).den) ∧
 True ∧ True ∧ True ∧ True ∧ True) ∧ rE (p.f.2 i.toNat) ∧ rE (p.f.3 i.toNat) ∧ rE (p.f.4 i.toNat) ∧ rE (p.f.5 i.toNat) ∧ True) ∧ (¬anB (whL p i false) (p.f.to i.toNat) z = true → (0 : Int) ≤ (↑z : Int) ∧ (↑z : Int) < (↑(whL p i false).length : Int) ∧ (0 : Nat) < (1 : Nat) ∧ rI ((↑z : Int) + (1 : Int)) ∧ ∃ z_1, (z_1 ≤ (whL p i false).length ∧ ((0 : Int) ≤ i ∧ i < (↑p.f.1 : Int)) ∧ okP p ∧ (∀ (s : Nat), s < pwk p.1 → bad p.f s = false) ∧ whE p i false = (0 : Int)) ∧ (whL p i false).length - z_1 < (whL p i false).length - z ∧ i = i ∧ rE false ∧ rE (0 : Nat) ∧ rE (0 : Nat) ∧ rE ((whL p i false).length) ∧ (∀ (i_1 : Nat), i_1 < (whL p i false).length → rE ((i6 (↑((whL p i false).getD i_1 (0 : Nat)) : Int)).den) ∧ True) ∧ rE (0 : Nat) ∧ rE (0 : Nat) ∧ rE (tgE false p i.toNat) ∧ rE (own false p.f i.toNat) ∧ (rE true ↔ anB (whL p i false) (p.f.fr i.toNat) z_1 = true) ∧ ((↑((whL p i false).getD
 (↑z : Int).toNat (0 : Nat)) : Int) = p.f.3 i.toNat ↔ anB (whL p i false) (p.f.to i.toNat) z_1 = true) ∧ (↑z : Int) + (1 : Int) = (↑z_1 : Int) ∧ p.1 = p.1 ∧ rE p.f.1 ∧ (∀ (i : Nat), i < p.f.1 → rE ((p.f.el i).den) ∧ True ∧ True ∧ True ∧ True ∧ True) ∧ rE (p.f.2 i.toNat) ∧ rE (p.f.3 i.toNat) ∧ rE (p.f.4 i.toNat) ∧ rE (p.f.5 i.toNat) ∧ True)) ∧ (¬anB (whL p i false) (p.f.fr i.toNat) z = true → (0 : Int) ≤ (↑z : Int) ∧ (↑z : Int) < (↑(whL p i false).length : Int) ∧ (0 : Nat) < (1 : Nat) ∧ (anB (whL p i false) (p.f.to i.toNat) z = true → rI ((↑z : Int) + (1 : Int)) ∧ ∃ z_1, (z_1 ≤ (whL p i false).length ∧ ((0 : Int) ≤ i ∧ i < (↑p.f.1 : Int)) ∧ okP p ∧ (∀ (s : Nat), s < pwk p.1 → bad p.f s = false) ∧ whE p i false = (0 : Int)) ∧ (whL p i false).length - z_1 < (whL p i false).length - z ∧ i = i ∧ rE false ∧ rE (0 : Nat) ∧ rE (0 : Nat) ∧ rE ((whL p i false).length) ∧ (∀ (i_1 : Nat), i_1 < (whL
 p i false).length → rE ((i6 (↑((whL p i false).getD i_1 (0 : Nat)) : Int)).den) ∧ True) ∧ rE (0 : Nat) ∧ rE (0 : Nat) ∧ rE (tgE false p i.toNat) ∧ rE (own false p.f i.toNat) ∧ ((↑((whL p i false).getD (↑z : Int).toNat (0 : Nat)) : Int) = p.f.2 i.toNat ↔ anB (whL p i false) (p.f.fr i.toNat) z_1 = true) ∧ (rE true ↔ anB (whL p i false) (p.f.to i.toNat) z_1 = true) ∧ (↑z : Int) + (1 : Int) = (↑z_1 : Int) ∧ p.1 = p.1 ∧ rE p.f.1 ∧ (∀ (i : Nat), i < p.f.1 → rE ((p.f.el i).den) ∧ True ∧ True ∧ True ∧ True ∧ True) ∧ rE (p.f.2 i.toNat) ∧ rE (p.f.3 i.toNat) ∧ rE (p.f.4 i.toNat) ∧ rE (p.f.5 i.toNat) ∧ True) ∧ (¬anB (whL p i false) (p.f.to i.toNat) z = true → (0 : Int) ≤ (↑z : Int) ∧ (↑z : Int) < (↑(whL p i false).length : Int) ∧ (0 : Nat) < (1 : Nat) ∧ rI ((↑z : Int) + (1 : Int)) ∧ ∃ z_1, (z_1 ≤ (whL p i false).length ∧ ((0 : Int) ≤ i ∧ i < (↑p.f.1 : Int)) ∧ okP p ∧ (∀ (s : Nat), s < pwk p.1 → bad
 p.f s = false) ∧ whE p i false = (0 : Int)) ∧ (whL p i false).length - z_1 < (whL p i false).length - z ∧ i = i ∧ rE false ∧ rE (0 : Nat) ∧ rE (0 : Nat) ∧ rE ((whL p i false).length) ∧ (∀ (i_1 : Nat), i_1 < (whL p i false).length → rE ((i6 (↑((whL p i false).getD i_1 (0 : Nat)) : Int)).den) ∧ True) ∧ rE (0 : Nat) ∧ rE (0 : Nat) ∧ rE (tgE false p i.toNat) ∧ rE (own false p.f i.toNat) ∧ ((↑((whL p i false).getD (↑z : Int).toNat (0 : Nat)) : Int) = p.f.2 i.toNat ↔ anB (whL p i false) (p.f.fr i.toNat) z_1 = true) ∧ ((↑((whL p i false).getD (↑z : Int).toNat (0 : Nat)) : Int) = p.f.3 i.toNat ↔ anB (whL p i false) (p.f.to i.toNat) z_1 = true) ∧ (↑z : Int) + (1 : Int) = (↑z_1 : Int) ∧ p.1 = p.1 ∧ rE p.f.1 ∧ (∀ (i : Nat), i < p.f.1 → rE ((p.f.el i).den) ∧ True ∧ True ∧ True ∧ True ∧ True) ∧ rE (p.f.2 i.toNat) ∧ rE (p.f.3 i.toNat) ∧ rE (p.f.4 i.toNat) ∧ rE (p.f.5 i.toNat) ∧ True)))))) ∧ (¬(↑z :
 Int) < (↑(whL p i false).length : Int) → (0 : Nat) < (1 : Nat) ∧ (0 : Nat) < (1 : Nat) ∧ (∀ (i : Nat), i < p.f.1 → True ∧ True ∧ True ∧ True ∧ True) ∧ (∀ (i_1 : Nat), i_1 < (whL p i false).length → True) ∧ SV.agg [SV.int IntKind.i64 p.k, SV.lst (4 : Nat) p.f.n p.f.el] = (pOf (SV.agg [SV.int IntKind.i64 p.k, SV.lst (4 : Nat) p.f.n p.f.el])).sv ∧ okG (pOf (SV.agg [SV.int IntKind.i64 p.k, SV.lst (4 : Nat) p.f.n p.f.el])) ∧ ∃ L, (SV.lst (1 : Nat) (whL p i false).length fun k => i6 (↑((whL p i false).getD k (0 : Nat)) : Int)) = lstI L ∧ (L.length ≤ (1000 : Nat) ∧ ∀ (y : Nat), List.Mem y L → y < (16 : Nat)) ∧ (∀ (i : Nat), i < p.f.1 → True ∧ True ∧ True ∧ True ∧ True) ∧ (∀ (i_1 : Nat), i_1 < (whL p i false).length → True) ∧ SV.agg [SV.int IntKind.i64 p.k, SV.lst (4 : Nat) p.f.n p.f.el] = (pOf (SV.agg [SV.int IntKind.i64 p.k, SV.lst (4 : Nat) p.f.n p.f.el])).sv ∧ okG (pOf (SV.agg [SV.int
 IntKind.i64 p.k, SV.lst (4 : Nat) p.f.n p.f.el])) ∧ ∃ L_1, (SV.lst (1 : Nat) (whL p i false).length fun k => i6 (↑((whL p i false).getD k (0 : Nat)) : Int)) = lstI L_1 ∧ (L_1.length ≤ (1000 : Nat) ∧ ∀ (y : Nat), List.Mem y L_1 → y < (16 : Nat)) ∧ (0 : Nat) < (1 : Nat) ∧ (0 : Nat) < (1 : Nat) ∧ rI (suL (pOf (SV.agg [SV.int IntKind.i64 p.k, SV.lst (4 : Nat) p.f.n p.f.el])) L_1 true i - suH (pOf (SV.agg [SV.int IntKind.i64 p.k, SV.lst (4 : Nat) p.f.n p.f.el])) L false i) ∧ (anB (whL p i false) (p.f.to i.toNat) z = true → (¬anB (whL p i false) (p.f.fr i.toNat) z = true → (suL (pOf (SV.agg [SV.int IntKind.i64 p.k, SV.lst (4 : Nat) p.f.n p.f.el])) L_1 true i - suH (pOf (SV.agg [SV.int IntKind.i64 p.k, SV.lst (4 : Nat) p.f.n p.f.el])) L false i = tgE false p i.toNat → (¬tgE false p i.toNat = own false p.f i.toNat → rE true ∧ True) ∧ (¬¬tgE false p i.toNat = own false p.f i.toNat → false = true
 ∧ True)) ∧ (¬suL (pOf (SV.agg [SV.int IntKind.i64 p.k, SV.lst (4 : Nat) p.f.n p.f.el])) L_1 true i - suH (pOf (SV.agg [SV.int IntKind.i64 p.k, SV.lst (4 : Nat) p.f.n p.f.el])) L false i = tgE false p i.toNat → false = true ∧ True)) ∧ (¬¬anB (whL p i false) (p.f.fr i.toNat) z = true → false = true ∧ True)) ∧ (¬anB (whL p i false) (p.f.to i.toNat) z = true → false = true ∧ True))))))))))))) := by kernel_rfl
theorem prvt_vc (p : Pl) (i : Int) : prvt p i =
 ((0 : Nat) < (1 : Nat) ∧ ((20 : Int) < (↑p.f.1 : Int) → rE true ∧ True) ∧ (¬(20 : Int) < (↑p.f.1 : Int) → (0 : Nat) < (1 : Nat) ∧ (∀ (i : Nat), i < p.f.1 → True ∧ True ∧ True ∧ True ∧ True) ∧ SV.agg [SV.int IntKind.i64 p.k, SV.lst (4 : Nat) p.f.n p.f.el] = (pOf (SV.agg [SV.int IntKind.i64 p.k, SV.lst (4 : Nat) p.f.n p.f.el])).sv ∧ (0 : Nat) < (1 : Nat) ∧ (∀ (i : Nat), i < p.f.1 → True ∧ True ∧ True ∧ True ∧ True) ∧ SV.agg [SV.int IntKind.i64 p.k, SV.lst (4 : Nat) p.f.n p.f.el] = (pOf (SV.agg [SV.int IntKind.i64 p.k, SV.lst (4 : Nat) p.f.n p.f.el])).sv ∧ (0 : Nat) < (1 : Nat) ∧ (∀ (i : Nat), i < p.f.1 → True ∧ True ∧ True ∧ True ∧ True) ∧ SV.agg [SV.int IntKind.i64 p.k, SV.lst (4 : Nat) p.f.n p.f.el] = (pOf (SV.agg [SV.int IntKind.i64 p.k, SV.lst (4 : Nat) p.f.n p.f.el])).sv ∧ (wrE (pOf (SV.agg [SV.int IntKind.i64 p.k, SV.lst (4 : Nat) p.f.n p.f.el])) = (1 : Int) → (wrE (pOf (SV.agg
 [SV.int IntKind.i64 p.k, SV.lst (4 : Nat) p.f.n p.f.el])) = (1 : Int) → (chE (pOf (SV.agg [SV.int IntKind.i64 p.k, SV.lst (4 : Nat) p.f.n p.f.el])) = wrE (pOf (SV.agg [SV.int IntKind.i64 p.k, SV.lst (4 : Nat) p.f.n p.f.el])) → (whE (pOf (SV.agg [SV.int IntKind.i64 p.k, SV.lst (4 : Nat) p.f.n p.f.el])) i true = wrE (pOf (SV.agg [SV.int IntKind.i64 p.k, SV.lst (4 : Nat) p.f.n p.f.el])) → ((↑(wrL (pOf (SV.agg [SV.int IntKind.i64 p.k, SV.lst (4 : Nat) p.f.n p.f.el]))).length : Int) = (0 : Int) → ((↑(okN (pOf (SV.agg [SV.int IntKind.i64 p.k, SV.lst (4 : Nat) p.f.n p.f.el]))) : Int) = (0 : Int) → ((↑(whL (pOf (SV.agg [SV.int IntKind.i64 p.k, SV.lst (4 : Nat) p.f.n p.f.el])) i true).length : Int) = (0 : Int) → rE true ∧ True) ∧ (¬(↑(whL (pOf (SV.agg [SV.int IntKind.i64 p.k, SV.lst (4 : Nat) p.f.n p.f.el])) i true).length : Int) = (0 : Int) → false = true ∧ True)) ∧ (¬(↑(okN (pOf (SV.agg
 [SV.int IntKind.i64 p.k, SV.lst (4 : Nat) p.f.n p.f.el]))) : Int) = (0 : Int) → false = true ∧ True)) ∧ (¬(↑(wrL (pOf (SV.agg [SV.int IntKind.i64 p.k, SV.lst (4 : Nat) p.f.n p.f.el]))).length : Int) = (0 : Int) → false = true ∧ True)) ∧ (¬whE (pOf (SV.agg [SV.int IntKind.i64 p.k, SV.lst (4 : Nat) p.f.n p.f.el])) i true = wrE (pOf (SV.agg [SV.int IntKind.i64 p.k, SV.lst (4 : Nat) p.f.n p.f.el])) → false = true ∧ True)) ∧ (¬chE (pOf (SV.agg [SV.int IntKind.i64 p.k, SV.lst (4 : Nat) p.f.n p.f.el])) = wrE (pOf (SV.agg [SV.int IntKind.i64 p.k, SV.lst (4 : Nat) p.f.n p.f.el])) → false = true ∧ True)) ∧ (¬wrE (pOf (SV.agg [SV.int IntKind.i64 p.k, SV.lst (4 : Nat) p.f.n p.f.el])) = (1 : Int) → false = true ∧ True)) ∧ (¬wrE (pOf (SV.agg [SV.int IntKind.i64 p.k, SV.lst (4 : Nat) p.f.n p.f.el])) = (1 : Int) → (0 : Nat) < (1 : Nat) ∧ (∀ (i : Nat), i < p.f.1 → True ∧ True ∧ True ∧ True ∧ True) ∧
 SV.agg [SV.int IntKind.i64 p.k, SV.lst (4 : Nat) p.f.n p.f.el] = (pOf (SV.agg [SV.int IntKind.i64 p.k, SV.lst (4 : Nat) p.f.n p.f.el])).sv ∧ (¬okP (pOf (SV.agg [SV.int IntKind.i64 p.k, SV.lst (4 : Nat) p.f.n p.f.el])) → (wrE (pOf (SV.agg [SV.int IntKind.i64 p.k, SV.lst (4 : Nat) p.f.n p.f.el])) = (1 : Int) → (chE (pOf (SV.agg [SV.int IntKind.i64 p.k, SV.lst (4 : Nat) p.f.n p.f.el])) = wrE (pOf (SV.agg [SV.int IntKind.i64 p.k, SV.lst (4 : Nat) p.f.n p.f.el])) → (whE (pOf (SV.agg [SV.int IntKind.i64 p.k, SV.lst (4 : Nat) p.f.n p.f.el])) i true = wrE (pOf (SV.agg [SV.int IntKind.i64 p.k, SV.lst (4 : Nat) p.f.n p.f.el])) → ((↑(wrL (pOf (SV.agg [SV.int IntKind.i64 p.k, SV.lst (4 : Nat) p.f.n p.f.el]))).length : Int) = (0 : Int) → ((↑(okN (pOf (SV.agg [SV.int IntKind.i64 p.k, SV.lst (4 : Nat) p.f.n p.f.el]))) : Int) = (0 : Int) → ((↑(whL (pOf (SV.agg [SV.int IntKind.i64 p.k, SV.lst (4 : Nat)
 p.f.n p.f.el])) i true).length : Int) = (0 : Int) → rE true ∧ True) ∧ (¬(↑(whL (pOf (SV.agg [SV.int IntKind.i64 p.k, SV.lst (4 : Nat) p.f.n p.f.el])) i true).length : Int) = (0 : Int) → false = true ∧ True)) ∧ (¬(↑(okN (pOf (SV.agg [SV.int IntKind.i64 p.k, SV.lst (4 : Nat) p.f.n p.f.el]))) : Int) = (0 : Int) → false = true ∧ True)) ∧ (¬(↑(wrL (pOf (SV.agg [SV.int IntKind.i64 p.k, SV.lst (4 : Nat) p.f.n p.f.el]))).length : Int) = (0 : Int) → false = true ∧ True)) ∧ (¬whE (pOf (SV.agg [SV.int IntKind.i64 p.k, SV.lst (4 : Nat) p.f.n p.f.el])) i true = wrE (pOf (SV.agg [SV.int IntKind.i64 p.k, SV.lst (4 : Nat) p.f.n p.f.el])) → false = true ∧ True)) ∧ (¬chE (pOf (SV.agg [SV.int IntKind.i64 p.k, SV.lst (4 : Nat) p.f.n p.f.el])) = wrE (pOf (SV.agg [SV.int IntKind.i64 p.k, SV.lst (4 : Nat) p.f.n p.f.el])) → false = true ∧ True)) ∧ (¬wrE (pOf (SV.agg [SV.int IntKind.i64 p.k, SV.lst (4 : Nat)
 p.f.n p.f.el])) = (1 : Int) → false = true ∧ True)) ∧ (¬¬okP (pOf (SV.agg [SV.int IntKind.i64 p.k, SV.lst (4 : Nat) p.f.n p.f.el])) → (wrE (pOf (SV.agg [SV.int IntKind.i64 p.k, SV.lst (4 : Nat) p.f.n p.f.el])) = (0 : Int) → (∃ z, (z ≤ (wrL p).length ∧ okP p ∧ wrE p = (0 : Int)) ∧ i = i ∧ rE (0 : Nat) ∧ rE (0 : Nat) ∧ (wrL (pOf (SV.agg [SV.int IntKind.i64 p.k, SV.lst (4 : Nat) p.f.n p.f.el]))).length = (wrL p).length ∧ (∀ (i : Nat), i < (wrL p).length → (i6 (↑((wrL (pOf (SV.agg [SV.int IntKind.i64 p.k, SV.lst (4 : Nat) p.f.n p.f.el]))).getD i (0 : Nat)) : Int)).den = (i6 (↑((wrL p).getD i (0 : Nat)) : Int)).den ∧ True) ∧ wrE (pOf (SV.agg [SV.int IntKind.i64 p.k, SV.lst (4 : Nat) p.f.n p.f.el])) = wrE p ∧ okN (pOf (SV.agg [SV.int IntKind.i64 p.k, SV.lst (4 : Nat) p.f.n p.f.el])) = okN p ∧ (∀ (i : Nat), i < okN p → (SV.agg [i6 (tgE false (pOf (SV.agg [SV.int IntKind.i64 p.k, SV.lst (4 :
 Nat) p.f.n p.f.el])) i), i6 (tgE true (pOf (SV.agg [SV.int IntKind.i64 p.k, SV.lst (4 : Nat) p.f.n p.f.el])) i)]).den = (SV.agg [i6 (tgE false p i), i6 (tgE true p i)]).den ∧ True ∧ True ∧ True) ∧ chE (pOf (SV.agg [SV.int IntKind.i64 p.k, SV.lst (4 : Nat) p.f.n p.f.el])) = chE p ∧ (whL (pOf (SV.agg [SV.int IntKind.i64 p.k, SV.lst (4 : Nat) p.f.n p.f.el])) i true).length = (whL p i true).length ∧ (∀ (i_1 : Nat), i_1 < (whL p i true).length → (i6 (↑((whL (pOf (SV.agg [SV.int IntKind.i64 p.k, SV.lst (4 : Nat) p.f.n p.f.el])) i true).getD i_1 (0 : Nat)) : Int)).den = (i6 (↑((whL p i true).getD i_1 (0 : Nat)) : Int)).den ∧ True) ∧ whE (pOf (SV.agg [SV.int IntKind.i64 p.k, SV.lst (4 : Nat) p.f.n p.f.el])) i true = whE p i true ∧ (0 : Int) = (↑z : Int) ∧ p.1 = p.1 ∧ rE p.f.1 ∧ (∀ (i : Nat), i < p.f.1 → rE ((p.f.el i).den) ∧ True ∧ True ∧ True ∧ True ∧ True) ∧ True) ∧ ∀ (z : Nat), z ≤ (wrL
 p).length ∧ okP p ∧ wrE p = (0 : Int) → ((↑z : Int) < (↑(wrL p).length : Int) → (0 : Int) ≤ (↑z : Int) ∧ (↑z : Int) < (↑(wrL p).length : Int) ∧ ((↑((wrL p).getD (↑z : Int).toNat (0 : Nat)) : Int) < (0 : Int) → false = true ∧ True) ∧ (¬(↑((wrL p).getD (↑z : Int).toNat (0 : Nat)) : Int) < (0 : Int) → (0 : Int) ≤ (↑z : Int) ∧ (↑z : Int) < (↑(wrL p).length : Int) ∧ (0 : Nat) < (1 : Nat) ∧ (p.1 ≤ (↑((wrL p).getD (↑z : Int).toNat (0 : Nat)) : Int) → false = true ∧ True) ∧ (¬p.1 ≤ (↑((wrL p).getD (↑z : Int).toNat (0 : Nat)) : Int) → ((0 : Int) < (↑z : Int) → (0 : Int) ≤ (↑z : Int) ∧ (↑z : Int) < (↑(wrL p).length : Int) ∧ rI ((↑z : Int) - (1 : Int)) ∧ (0 : Int) ≤ (↑z : Int) - (1 : Int) ∧ (↑z : Int) - (1 : Int) < (↑(wrL p).length : Int) ∧ ((↑((wrL p).getD (↑z : Int).toNat (0 : Nat)) : Int) ≤ (↑((wrL p).getD ((↑z : Int) - (1 : Int)).toNat (0 : Nat)) : Int) → false = true ∧ True) ∧ (¬(↑((wrL
 p).getD (↑z : Int).toNat (0 : Nat)) : Int) ≤ (↑((wrL p).getD ((↑z : Int) - (1 : Int)).toNat (0 : Nat)) : Int) → rI ((↑z : Int) + (1 : Int)) ∧ ∃ z_1, (z_1 ≤ (wrL p).length ∧ okP p ∧ wrE p = (0 : Int)) ∧ (wrL p).length - z_1 < (wrL p).length - z ∧ i = i ∧ rE (0 : Nat) ∧ rE (0 : Nat) ∧ rE ((wrL p).length) ∧ (∀ (i : Nat), i < (wrL p).length → rE ((i6 (↑((wrL p).getD i (0 : Nat)) : Int)).den) ∧ True) ∧ rE (wrE p) ∧ rE (okN p) ∧ (∀ (i : Nat), i < okN p → rE ((SV.agg [i6 (tgE false p i), i6 (tgE true p i)]).den) ∧ True ∧ True ∧ True) ∧ rE (chE p) ∧ rE ((whL p i true).length) ∧ (∀ (i_1 : Nat), i_1 < (whL p i true).length → rE ((i6 (↑((whL p i true).getD i_1 (0 : Nat)) : Int)).den) ∧ True) ∧ rE (whE p i true) ∧ (↑z : Int) + (1 : Int) = (↑z_1 : Int) ∧ p.1 = p.1 ∧ rE p.f.1 ∧ (∀ (i : Nat), i < p.f.1 → rE ((p.f.el i).den) ∧ True ∧ True ∧ True ∧ True ∧ True) ∧ True)) ∧ (¬(0 : Int) < (↑z : Int) → rI
 ((↑z : Int) + (1 : Int)) ∧ ∃ z_1, (z_1 ≤ (wrL p).length ∧ okP p ∧ wrE p = (0 : Int)) ∧ (wrL p).length - z_1 < (wrL p).length - z ∧ i = i ∧ rE (0 : Nat) ∧ rE (0 : Nat) ∧ rE ((wrL p).length) ∧ (∀ (i : Nat), i < (wrL p).length → rE ((i6 (↑((wrL p).getD i (0 : Nat)) : Int)).den) ∧ True) ∧ rE (wrE p) ∧ rE (okN p) ∧ (∀ (i : Nat), i < okN p → rE ((SV.agg [i6 (tgE false p i), i6 (tgE true p i)]).den) ∧ True ∧ True ∧ True) ∧ rE (chE p) ∧ rE ((whL p i true).length) ∧ (∀ (i_1 : Nat), i_1 < (whL p i true).length → rE ((i6 (↑((whL p i true).getD i_1 (0 : Nat)) : Int)).den) ∧ True) ∧ rE (whE p i true) ∧ (↑z : Int) + (1 : Int) = (↑z_1 : Int) ∧ p.1 = p.1 ∧ rE p.f.1 ∧ (∀ (i : Nat), i < p.f.1 → rE ((p.f.el i).den) ∧ True ∧ True ∧ True ∧ True ∧ True) ∧ True)))) ∧ (¬(↑z : Int) < (↑(wrL p).length : Int) → (chE p = (6 : Int) → (0 : Nat) < (1 : Nat) ∧ (∀ (i : Nat), i < p.f.1 → True ∧ True ∧ True ∧ True ∧
 True) ∧ (∀ (i : Nat), i < (wrL p).length → True) ∧ SV.agg [SV.int IntKind.i64 p.k, SV.lst (4 : Nat) p.f.n p.f.el] = (pOf (SV.agg [SV.int IntKind.i64 p.k, SV.lst (4 : Nat) p.f.n p.f.el])).sv ∧ okG (pOf (SV.agg [SV.int IntKind.i64 p.k, SV.lst (4 : Nat) p.f.n p.f.el])) ∧ ∃ L, (SV.lst (1 : Nat) (wrL p).length fun k => i6 (↑((wrL p).getD k (0 : Nat)) : Int)) = lstI L ∧ (L.length ≤ (1000 : Nat) ∧ ∀ (y : Nat), List.Mem y L → y < (16 : Nat)) ∧ (0 : Nat) < (1 : Nat) ∧ (∀ (i : Nat), i < p.f.1 → True ∧ True ∧ True ∧ True ∧ True) ∧ (∀ (i : Nat), i < (wrL p).length → True) ∧ SV.agg [SV.int IntKind.i64 p.k, SV.lst (4 : Nat) p.f.n p.f.el] = (pOf (SV.agg [SV.int IntKind.i64 p.k, SV.lst (4 : Nat) p.f.n p.f.el])).sv ∧ okG (pOf (SV.agg [SV.int IntKind.i64 p.k, SV.lst (4 : Nat) p.f.n p.f.el])) ∧ ∃ L_1, (SV.lst (1 : Nat) (wrL p).length fun k => i6 (↑((wrL p).getD k (0 : Nat)) : Int)) = lstI L_1 ∧
 (L_1.length ≤ (1000 : Nat) ∧ ∀ (y : Nat), List.Mem y L_1 → y < (16 : Nat)) ∧ (suH (pOf (SV.agg [SV.int IntKind.i64 p.k, SV.lst (4 : Nat) p.f.n p.f.el])) L_1 true (-1 : Int) < suL (pOf (SV.agg [SV.int IntKind.i64 p.k, SV.lst (4 : Nat) p.f.n p.f.el])) L false (-1 : Int) → (whE p i true = (6 : Int) → rE true ∧ True) ∧ (¬whE p i true = (6 : Int) → (whE p i true = (2 : Int) → (i < (0 : Int) → rE true ∧ True) ∧ (¬i < (0 : Int) → (0 : Nat) < (1 : Nat) ∧ ((↑p.f.1 : Int) ≤ i → rE true ∧ True) ∧ (¬(↑p.f.1 : Int) ≤ i → false = true ∧ True))) ∧ (¬whE p i true = (2 : Int) → false = true ∧ True))) ∧ (¬suH (pOf (SV.agg [SV.int IntKind.i64 p.k, SV.lst (4 : Nat) p.f.n p.f.el])) L_1 true (-1 : Int) < suL (pOf (SV.agg [SV.int IntKind.i64 p.k, SV.lst (4 : Nat) p.f.n p.f.el])) L false (-1 : Int) → false = true ∧ True)) ∧ (¬chE p = (6 : Int) → false = true ∧ True))) ∧ (¬wrE (pOf (SV.agg [SV.int IntKind.i64
 p.k, SV.lst (4 : Nat) p.f.n p.f.el])) = (0 : Int) → (¬wrE (pOf (SV.agg [SV.int IntKind.i64 p.k, SV.lst (4 : Nat) p.f.n p.f.el])) = (4 : Int) → false = true ∧ True) ∧ (¬¬wrE (pOf (SV.agg [SV.int IntKind.i64 p.k, SV.lst (4 : Nat) p.f.n p.f.el])) = (4 : Int) → (¬chE (pOf (SV.agg [SV.int IntKind.i64 p.k, SV.lst (4 : Nat) p.f.n p.f.el])) = (0 : Int) → false = true ∧ True) ∧ (¬¬chE (pOf (SV.agg [SV.int IntKind.i64 p.k, SV.lst (4 : Nat) p.f.n p.f.el])) = (0 : Int) → (0 : Nat) < (1 : Nat) ∧ (¬(↑(okN (pOf (SV.agg [SV.int IntKind.i64 p.k, SV.lst (4 : Nat) p.f.n p.f.el]))) : Int) = (↑p.f.1 : Int) → false = true ∧ True) ∧ (¬¬(↑(okN (pOf (SV.agg [SV.int IntKind.i64 p.k, SV.lst (4 : Nat) p.f.n p.f.el]))) : Int) = (↑p.f.1 : Int) → (i < (0 : Int) → (whE (pOf (SV.agg [SV.int IntKind.i64 p.k, SV.lst (4 : Nat) p.f.n p.f.el])) i true = (2 : Int) → ((↑(whL (pOf (SV.agg [SV.int IntKind.i64 p.k, SV.lst (4 :
 Nat) p.f.n p.f.el])) i true).length : Int) = (0 : Int) → rE true ∧ True) ∧ (¬(↑(whL (pOf (SV.agg [SV.int IntKind.i64 p.k, SV.lst (4 : Nat) p.f.n p.f.el])) i true).length : Int) = (0 : Int) → false = true ∧ True)) ∧ (¬whE (pOf (SV.agg [SV.int IntKind.i64 p.k, SV.lst (4 : Nat) p.f.n p.f.el])) i true = (2 : Int) → false = true ∧ True)) ∧ (¬i < (0 : Int) → ((↑(okN (pOf (SV.agg [SV.int IntKind.i64 p.k, SV.lst (4 : Nat) p.f.n p.f.el]))) : Int) ≤ i → (whE (pOf (SV.agg [SV.int IntKind.i64 p.k, SV.lst (4 : Nat) p.f.n p.f.el])) i true = (2 : Int) → ((↑(whL (pOf (SV.agg [SV.int IntKind.i64 p.k, SV.lst (4 : Nat) p.f.n p.f.el])) i true).length : Int) = (0 : Int) → rE true ∧ True) ∧ (¬(↑(whL (pOf (SV.agg [SV.int IntKind.i64 p.k, SV.lst (4 : Nat) p.f.n p.f.el])) i true).length : Int) = (0 : Int) → false = true ∧ True)) ∧ (¬whE (pOf (SV.agg [SV.int IntKind.i64 p.k, SV.lst (4 : Nat) p.f.n p.f.el])) i
 true = (2 : Int) → false = true ∧ True)) ∧ (¬(↑(okN (pOf (SV.agg [SV.int IntKind.i64 p.k, SV.lst (4 : Nat) p.f.n p.f.el]))) : Int) ≤ i → (0 : Nat) < (1 : Nat) ∧ (0 : Int) ≤ i ∧ i < (↑p.f.1 : Int) ∧ (0 : Int) ≤ i ∧ i < (↑(okN (pOf (SV.agg [SV.int IntKind.i64 p.k, SV.lst (4 : Nat) p.f.n p.f.el]))) : Int) ∧ (0 : Nat) < (1 : Nat) ∧ (0 : Int) ≤ i ∧ i < (↑(okN (pOf (SV.agg [SV.int IntKind.i64 p.k, SV.lst (4 : Nat) p.f.n p.f.el]))) : Int) ∧ (0 : Nat) < (1 : Nat) ∧ (¬whE (pOf (SV.agg [SV.int IntKind.i64 p.k, SV.lst (4 : Nat) p.f.n p.f.el])) i true = (0 : Int) → (whE (pOf (SV.agg [SV.int IntKind.i64 p.k, SV.lst (4 : Nat) p.f.n p.f.el])) i true = (4 : Int) → ((↑(whL (pOf (SV.agg [SV.int IntKind.i64 p.k, SV.lst (4 : Nat) p.f.n p.f.el])) i true).length : Int) = (0 : Int) → (tgE true (pOf (SV.agg [SV.int IntKind.i64 p.k, SV.lst (4 : Nat) p.f.n p.f.el])) i.toNat = p.f.5 i.toNat → rE true ∧ True) ∧
 (¬tgE true (pOf (SV.agg [SV.int IntKind.i64 p.k, SV.lst (4 : Nat) p.f.n p.f.el])) i.toNat = p.f.5 i.toNat → false = true ∧ True)) ∧ (¬(↑(whL (pOf (SV.agg [SV.int IntKind.i64 p.k, SV.lst (4 : Nat) p.f.n p.f.el])) i true).length : Int) = (0 : Int) → false = true ∧ True)) ∧ (¬whE (pOf (SV.agg [SV.int IntKind.i64 p.k, SV.lst (4 : Nat) p.f.n p.f.el])) i true = (4 : Int) → false = true ∧ True)) ∧ (¬¬whE (pOf (SV.agg [SV.int IntKind.i64 p.k, SV.lst (4 : Nat) p.f.n p.f.el])) i true = (0 : Int) → (∃ z, (z ≤ (whL p i true).length ∧ ((0 : Int) ≤ i ∧ i < (↑p.f.1 : Int)) ∧ okP p ∧ (∀ (s : Nat), s < pwk p.1 → bad p.f s = false) ∧ whE p i true = (0 : Int)) ∧ i = i ∧ rE true ∧ rE (0 : Nat) ∧ rE (0 : Nat) ∧ (whL (pOf (SV.agg [SV.int IntKind.i64 p.k, SV.lst (4 : Nat) p.f.n p.f.el])) i true).length = (whL p i true).length ∧ (∀ (i_1 : Nat), i_1 < (whL p i true).length → (i6 (↑((whL (pOf (SV.agg [SV.int
 IntKind.i64 p.k, SV.lst (4 : Nat) p.f.n p.f.el])) i true).getD i_1 (0 : Nat)) : Int)).den = (i6 (↑((whL p i true).getD i_1 (0 : Nat)) : Int)).den ∧ True) ∧ rE (0 : Nat) ∧ rE (0 : Nat) ∧ tgE true (pOf (SV.agg [SV.int IntKind.i64 p.k, SV.lst (4 : Nat) p.f.n p.f.el])) i.toNat = tgE true p i.toNat ∧ p.f.5 i.toNat = own true p.f i.toNat ∧ (false = true ↔ anB (whL p i true) (p.f.fr i.toNat) z = true) ∧ (false = true ↔ anB (whL p i true) (p.f.to i.toNat) z = true) ∧ (0 : Int) = (↑z : Int) ∧ p.1 = p.1 ∧ rE p.f.1 ∧ (∀ (i : Nat), i < p.f.1 → rE ((p.f.el i).den) ∧ True ∧ True ∧ True ∧ True ∧ True) ∧ rE (p.f.2 i.toNat) ∧ rE (p.f.3 i.toNat) ∧ rE (p.f.4 i.toNat) ∧ rE (p.f.5 i.toNat) ∧ True) ∧ ∀ (z : Nat), z ≤ (whL p i true).length ∧ ((0 : Int) ≤ i ∧ i < (↑p.f.1 : Int)) ∧ okP p ∧ (∀ (s : Nat), s < pwk p.1 → bad p.f s = false) ∧ whE p i true = (0 : Int) → ((↑z : Int) < (↑(whL p i true).length : Int) →
 (0 : Int) ≤ (↑z : Int) ∧ (↑z : Int) < (↑(whL p i true).length : Int) ∧ ((↑((whL p i true).getD (↑z : Int).toNat (0 : Nat)) : Int) < (0 : Int) → false = true ∧ True) ∧ (¬(↑((whL p i true).getD (↑z : Int).toNat (0 : Nat)) : Int) < (0 : Int) → (0 : Int) ≤ (↑z : Int) ∧ (↑z : Int) < (↑(whL p i true).length : Int) ∧ (0 : Nat) < (1 : Nat) ∧ (p.1 ≤ (↑((whL p i true).getD (↑z : Int).toNat (0 : Nat)) : Int) → false = true ∧ True) ∧ (¬p.1 ≤ (↑((whL p i true).getD (↑z : Int).toNat (0 : Nat)) : Int) → ((0 : Int) < (↑z : Int) → (0 : Int) ≤ (↑z : Int) ∧ (↑z : Int) < (↑(whL p i true).length : Int) ∧ rI ((↑z : Int) - (1 : Int)) ∧ (0 : Int) ≤ (↑z : Int) - (1 : Int) ∧ (↑z : Int) - (1 : Int) < (↑(whL p i true).length : Int) ∧ ((↑((whL p i true).getD (↑z : Int).toNat (0 : Nat)) : Int) ≤ (↑((whL p i true).getD ((↑z : Int) - (1 : Int)).toNat (0 : Nat)) : Int) → false = true ∧ True) ∧ (¬(↑((whL p i true).getD
 (↑z : Int).toNat (0 : Nat)) : Int) ≤ (↑((whL p i true).getD ((↑z : Int) - (1 : Int)).toNat (0 : Nat)) : Int) → (anB (whL p i true) (p.f.fr i.toNat) z = true → (anB (whL p i true) (p.f.to i.toNat) z = true → rI ((↑z : Int) + (1 : Int)) ∧ ∃ z_1, (z_1 ≤ (whL p i true).length ∧ ((0 : Int) ≤ i ∧ i < (↑p.f.1 : Int)) ∧ okP p ∧ (∀ (s : Nat), s < pwk p.1 → bad p.f s = false) ∧ whE p i true = (0 : Int)) ∧ (whL p i true).length - z_1 < (whL p i true).length - z ∧ i = i ∧ rE true ∧ rE (0 : Nat) ∧ rE (0 : Nat) ∧ rE ((whL p i true).length) ∧ (∀ (i_1 : Nat), i_1 < (whL p i true).length → rE ((i6 (↑((whL p i true).getD i_1 (0 : Nat)) : Int)).den) ∧ True) ∧ rE (0 : Nat) ∧ rE (0 : Nat) ∧ rE (tgE true p i.toNat) ∧ rE (own true p.f i.toNat) ∧ (rE true ↔ anB (whL p i true) (p.f.fr i.toNat) z_1 = true) ∧ (rE true ↔ anB (whL p i true) (p.f.to i.toNat) z_1 = true) ∧ (↑z : Int) + (1 : Int) = (↑z_1 : Int) ∧ p.1
 = p.1 ∧ rE p.f.1 ∧ (∀ (i : Nat), i < p.f.1 → rE ((p.f.el i).den) ∧ True ∧ True ∧ True ∧ True ∧ True) ∧ rE (p.f.2 i.toNat) ∧ rE (p.f.3 i.toNat) ∧ rE (p.f.4 i.toNat) ∧ rE (p.f.5 i.toNat) ∧ True) ∧ (¬anB (whL p i true) (p.f.to i.toNat) z = true → (0 : Int) ≤ (↑z : Int) ∧ (↑z : Int) < (↑(whL p i true).length : Int) ∧ (0 : Nat) < (1 : Nat) ∧ rI ((↑z : Int) + (1 : Int)) ∧ ∃ z_1, (z_1 ≤ (whL p i true).length ∧ ((0 : Int) ≤ i ∧ i < (↑p.f.1 : Int)) ∧ okP p ∧ (∀ (s : Nat), s < pwk p.1 → bad p.f s = false) ∧ whE p i true = (0 : Int)) ∧ (whL p i true).length - z_1 < (whL p i true).length - z ∧ i = i ∧ rE true ∧ rE (0 : Nat) ∧ rE (0 : Nat) ∧ rE ((whL p i true).length) ∧ (∀ (i_1 : Nat), i_1 < (whL p i true).length → rE ((i6 (↑((whL p i true).getD i_1 (0 : Nat)) : Int)).den) ∧ True) ∧ rE (0 : Nat) ∧ rE (0 : Nat) ∧ rE (tgE true p i.toNat) ∧ rE (own true p.f i.toNat) ∧ (rE true ↔ anB (whL p i true)
 (p.f.fr i.toNat) z_1 = true) ∧ ((↑((whL p i true).getD (↑z : Int).toNat (0 : Nat)) : Int) = p.f.3 i.toNat ↔ anB (whL p i true) (p.f.to i.toNat) z_1 = true) ∧ (↑z : Int) + (1 : Int) = (↑z_1 : Int) ∧ p.1 = p.1 ∧ rE p.f.1 ∧ (∀ (i : Nat), i < p.f.1 → rE ((p.f.el i).den) ∧ True ∧ True ∧ True ∧ True ∧ True) ∧ rE (p.f.2 i.toNat) ∧ rE (p.f.3 i.toNat) ∧ rE (p.f.4 i.toNat) ∧ rE (p.f.5 i.toNat) ∧ True)) ∧ (¬anB (whL p i true) (p.f.fr i.toNat) z = true → (0 : Int) ≤ (↑z : Int) ∧ (↑z : Int) < (↑(whL p i true).length : Int) ∧ (0 : Nat) < (1 : Nat) ∧ (anB (whL p i true) (p.f.to i.toNat) z = true → rI ((↑z : Int) + (1 : Int)) ∧ ∃ z_1, (z_1 ≤ (whL p i true).length ∧ ((0 : Int) ≤ i ∧ i < (↑p.f.1 : Int)) ∧ okP p ∧ (∀ (s : Nat), s < pwk p.1 → bad p.f s = false) ∧ whE p i true = (0 : Int)) ∧ (whL p i true).length - z_1 < (whL p i true).length - z ∧ i = i ∧ rE true ∧ rE (0 : Nat) ∧ rE (0 : Nat) ∧ rE ((whL p
 i true).length) ∧ (∀ (i_1 : Nat), i_1 < (whL p i true).length → rE ((i6 (↑((whL p i true).getD i_1 (0 : Nat)) : Int)).den) ∧ True) ∧ rE (0 : Nat) ∧ rE (0 : Nat) ∧ rE (tgE true p i.toNat) ∧ rE (own true p.f i.toNat) ∧ ((↑((whL p i true).getD (↑z : Int).toNat (0 : Nat)) : Int) = p.f.2 i.toNat ↔ anB (whL p i true) (p.f.fr i.toNat) z_1 = true) ∧ (rE true ↔ anB (whL p i true) (p.f.to i.toNat) z_1 = true) ∧ (↑z : Int) + (1 : Int) = (↑z_1 : Int) ∧ p.1 = p.1 ∧ rE p.f.1 ∧ (∀ (i : Nat), i < p.f.1 → rE ((p.f.el i).den) ∧ True ∧ True ∧ True ∧ True ∧ True) ∧ rE (p.f.2 i.toNat) ∧ rE (p.f.3 i.toNat) ∧ rE (p.f.4 i.toNat) ∧ rE (p.f.5 i.toNat) ∧ True) ∧ (¬anB (whL p i true) (p.f.to i.toNat) z = true → (0 : Int) ≤ (↑z : Int) ∧ (↑z : Int) < (↑(whL p i true).length : Int) ∧ (0 : Nat) < (1 : Nat) ∧ rI ((↑z : Int) + (1 : Int)) ∧ ∃ z_1, (z_1 ≤ (whL p i true).length ∧ ((0 : Int) ≤ i ∧ i < (↑p.f.1 : Int)) ∧ okP
 p ∧ (∀ (s : Nat), s < pwk p.1 → bad p.f s = false) ∧ whE p i true = (0 : Int)) ∧ (whL p i true).length - z_1 < (whL p i true).length - z ∧ i = i ∧ rE true ∧ rE (0 : Nat) ∧ rE (0 : Nat) ∧ rE ((whL p i true).length) ∧ (∀ (i_1 : Nat), i_1 < (whL p i true).length → rE ((i6 (↑((whL p i true).getD i_1 (0 : Nat)) : Int)).den) ∧ True) ∧ rE (0 : Nat) ∧ rE (0 : Nat) ∧ rE (tgE true p i.toNat) ∧ rE (own true p.f i.toNat) ∧ ((↑((whL p i true).getD (↑z : Int).toNat (0 : Nat)) : Int) = p.f.2 i.toNat ↔ anB (whL p i true) (p.f.fr i.toNat) z_1 = true) ∧ ((↑((whL p i true).getD (↑z : Int).toNat (0 : Nat)) : Int) = p.f.3 i.toNat ↔ anB (whL p i true) (p.f.to i.toNat) z_1 = true) ∧ (↑z : Int) + (1 : Int) = (↑z_1 : Int) ∧ p.1 = p.1 ∧ rE p.f.1 ∧ (∀ (i : Nat), i < p.f.1 → rE ((p.f.el i).den) ∧ True ∧ True ∧ True ∧ True ∧ True) ∧ rE (p.f.2 i.toNat) ∧ rE (p.f.3 i.toNat) ∧ rE (p.f.4 i.toNat) ∧ rE (p.f.5 i.toNat) ∧
 True)))) ∧ (¬(0 : Int) < (↑z : Int) → (anB (whL p i true) (p.f.fr i.toNat) z = true → (anB (whL p i true) (p.f.to i.toNat) z = true → rI ((↑z : Int) + (1 : Int)) ∧ ∃ z_1, (z_1 ≤ (whL p i true).length ∧ ((0 : Int) ≤ i ∧ i < (↑p.f.1 : Int)) ∧ okP p ∧ (∀ (s : Nat), s < pwk p.1 → bad p.f s = false) ∧ whE p i true = (0 : Int)) ∧ (whL p i true).length - z_1 < (whL p i true).length - z ∧ i = i ∧ rE true ∧ rE (0 : Nat) ∧ rE (0 : Nat) ∧ rE ((whL p i true).length) ∧ (∀ (i_1 : Nat), i_1 < (whL p i true).length → rE ((i6 (↑((whL p i true).getD i_1 (0 : Nat)) : Int)).den) ∧ True) ∧ rE (0 : Nat) ∧ rE (0 : Nat) ∧ rE (tgE true p i.toNat) ∧ rE (own true p.f i.toNat) ∧ (rE true ↔ anB (whL p i true) (p.f.fr i.toNat) z_1 = true) ∧ (rE true ↔ anB (whL p i true) (p.f.to i.toNat) z_1 = true) ∧ (↑z : Int) + (1 : Int) = (↑z_1 : Int) ∧ p.1 = p.1 ∧ rE p.f.1 ∧ (∀ (i : Nat), i < p.f.1 → rE ((p.f.el i).den) ∧ True ∧
 True ∧ True ∧ True ∧ True) ∧ rE (p.f.2 i.toNat) ∧ rE (p.f.3 i.toNat) ∧ rE (p.f.4 i.toNat) ∧ rE (p.f.5 i.toNat) ∧ True) ∧ (¬anB (whL p i true) (p.f.to i.toNat) z = true → (0 : Int) ≤ (↑z : Int) ∧ (↑z : Int) < (↑(whL p i true).length : Int) ∧ (0 : Nat) < (1 : Nat) ∧ rI ((↑z : Int) + (1 : Int)) ∧ ∃ z_1, (z_1 ≤ (whL p i true).length ∧ ((0 : Int) ≤ i ∧ i < (↑p.f.1 : Int)) ∧ okP p ∧ (∀ (s : Nat), s < pwk p.1 → bad p.f s = false) ∧ whE p i true = (0 : Int)) ∧ (whL p i true).length - z_1 < (whL p i true).length - z ∧ i = i ∧ rE true ∧ rE (0 : Nat) ∧ rE (0 : Nat) ∧ rE ((whL p i true).length) ∧ (∀ (i_1 : Nat), i_1 < (whL p i true).length → rE ((i6 (↑((whL p i true).getD i_1 (0 : Nat)) : Int)).den) ∧ True) ∧ rE (0 : Nat) ∧ rE (0 : Nat) ∧ rE (tgE true p i.toNat) ∧ rE (own true p.f i.toNat) ∧ (rE true ↔ anB (whL p i true) (p.f.fr i.toNat) z_1 = true) ∧ ((↑((whL p i true).getD (↑z : Int).toNat (0 :
 Nat)) : Int) = p.f.3 i.toNat ↔ anB (whL p i true) (p.f.to i.toNat) z_1 = true) ∧ (↑z : Int) + (1 : Int) = (↑z_1 : Int) ∧ p.1 = p.1 ∧ rE p.f.1 ∧ (∀ (i : Nat), i < p.f.1 → rE ((p.f.el i).den) ∧ True ∧ True ∧ True ∧ True ∧ True) ∧ rE (p.f.2 i.toNat) ∧ rE (p.f.3 i.toNat) ∧ rE (p.f.4 i.toNat) ∧ rE (p.f.5 i.toNat) ∧ True)) ∧ (¬anB (whL p i true) (p.f.fr i.toNat) z = true → (0 : Int) ≤ (↑z : Int) ∧ (↑z : Int) < (↑(whL p i true).length : Int) ∧ (0 : Nat) < (1 : Nat) ∧ (anB (whL p i true) (p.f.to i.toNat) z = true → rI ((↑z : Int) + (1 : Int)) ∧ ∃ z_1, (z_1 ≤ (whL p i true).length ∧ ((0 : Int) ≤ i ∧ i < (↑p.f.1 : Int)) ∧ okP p ∧ (∀ (s : Nat), s < pwk p.1 → bad p.f s = false) ∧ whE p i true = (0 : Int)) ∧ (whL p i true).length - z_1 < (whL p i true).length - z ∧ i = i ∧ rE true ∧ rE (0 : Nat) ∧ rE (0 : Nat) ∧ rE ((whL p i true).length) ∧ (∀ (i_1 : Nat), i_1 < (whL p i true).length → rE ((i6
 (↑((whL p i true).getD i_1 (0 : Nat)) : Int)).den) ∧ True) ∧ rE (0 : Nat) ∧ rE (0 : Nat) ∧ rE (tgE true p i.toNat) ∧ rE (own true p.f i.toNat) ∧ ((↑((whL p i true).getD (↑z : Int).toNat (0 : Nat)) : Int) = p.f.2 i.toNat ↔ anB (whL p i true) (p.f.fr i.toNat) z_1 = true) ∧ (rE true ↔ anB (whL p i true) (p.f.to i.toNat) z_1 = true) ∧ (↑z : Int) + (1 : Int) = (↑z_1 : Int) ∧ p.1 = p.1 ∧ rE p.f.1 ∧ (∀ (i : Nat), i < p.f.1 → rE ((p.f.el i).den) ∧ True ∧ True ∧ True ∧ True ∧ True) ∧ rE (p.f.2 i.toNat) ∧ rE (p.f.3 i.toNat) ∧ rE (p.f.4 i.toNat) ∧ rE (p.f.5 i.toNat) ∧ True) ∧ (¬anB (whL p i true) (p.f.to i.toNat) z = true → (0 : Int) ≤ (↑z : Int) ∧ (↑z : Int) < (↑(whL p i true).length : Int) ∧ (0 : Nat) < (1 : Nat) ∧ rI ((↑z : Int) + (1 : Int)) ∧ ∃ z_1, (z_1 ≤ (whL p i true).length ∧ ((0 : Int) ≤ i ∧ i < (↑p.f.1 : Int)) ∧ okP p ∧ (∀ (s : Nat), s < pwk p.1 → bad p.f s = false) ∧ whE p i true = (0 :
 Int)) ∧ (whL p i true).length - z_1 < (whL p i true).length - z ∧ i = i ∧ rE true ∧ rE (0 : Nat) ∧ rE (0 : Nat) ∧ rE ((whL p i true).length) ∧ (∀ (i_1 : Nat), i_1 < (whL p i true).length → rE ((i6 (↑((whL p i true).getD i_1 (0 : Nat)) : Int)).den) ∧ True) ∧ rE (0 : Nat) ∧ rE (0 : Nat) ∧ rE (tgE true p i.toNat) ∧ rE (own true p.f i.toNat) ∧ ((↑((whL p i true).getD (↑z : Int).toNat (0 : Nat)) : Int) = p.f.2 i.toNat ↔ anB (whL p i true) (p.f.fr i.toNat) z_1 = true) ∧ ((↑((whL p i true).getD (↑z : Int).toNat (0 : Nat)) : Int) = p.f.3 i.toNat ↔ anB (whL p i true) (p.f.to i.toNat) z_1 = true) ∧ (↑z : Int) + (1 : Int) = (↑z_1 : Int) ∧ p.1 = p.1 ∧ rE p.f.1 ∧ (∀ (i : Nat), i < p.f.1 → rE ((p.f.el i).den) ∧ True ∧ True ∧ True ∧ True ∧ True) ∧ rE (p.f.2 i.toNat) ∧ rE (p.f.3 i.toNat) ∧ rE (p.f.4 i.toNat) ∧ rE (p.f.5 i.toNat) ∧ True)))))) ∧ (¬(↑z : Int) < (↑(whL p i true).length : Int) → (0 : Nat) <
 (1 : Nat) ∧ (0 : Nat) < (1 : Nat) ∧ (∀ (i : Nat), i < p.f.1 → True ∧ True ∧ True ∧ True ∧ True) ∧ (∀ (i_1 : Nat), i_1 < (whL p i true).length → True) ∧ SV.agg [SV.int IntKind.i64 p.k, SV.lst (4 : Nat) p.f.n p.f.el] = (pOf (SV.agg [SV.int IntKind.i64 p.k, SV.lst (4 : Nat) p.f.n p.f.el])).sv ∧ okG (pOf (SV.agg [SV.int IntKind.i64 p.k, SV.lst (4 : Nat) p.f.n p.f.el])) ∧ ∃ L, (SV.lst (1 : Nat) (whL p i true).length fun k => i6 (↑((whL p i true).getD k (0 : Nat)) : Int)) = lstI L ∧ (L.length ≤ (1000 : Nat) ∧ ∀ (y : Nat), List.Mem y L → y < (16 : Nat)) ∧ (∀ (i : Nat), i < p.f.1 → True ∧ True ∧ True ∧ True ∧ True) ∧ (∀ (i_1 : Nat), i_1 < (whL p i true).length → True) ∧ SV.agg [SV.int IntKind.i64 p.k, SV.lst (4 : Nat) p.f.n p.f.el] = (pOf (SV.agg [SV.int IntKind.i64 p.k, SV.lst (4 : Nat) p.f.n p.f.el])).sv ∧ okG (pOf (SV.agg [SV.int IntKind.i64 p.k, SV.lst (4 : Nat) p.f.n p.f.el])) ∧ ∃ L_1,
 (SV.lst (1 : Nat) (whL p i true).length fun k => i6 (↑((whL p i true).getD k (0 : Nat)) : Int)) = lstI L_1 ∧ (L_1.length ≤ (1000 : Nat) ∧ ∀ (y : Nat), List.Mem y L_1 → y < (16 : Nat)) ∧ (0 : Nat) < (1 : Nat) ∧ (0 : Nat) < (1 : Nat) ∧ rI (suL (pOf (SV.agg [SV.int IntKind.i64 p.k, SV.lst (4 : Nat) p.f.n p.f.el])) L_1 true i - suH (pOf (SV.agg [SV.int IntKind.i64 p.k, SV.lst (4 : Nat) p.f.n p.f.el])) L false i) ∧ (0 : Nat) < (1 : Nat) ∧ (0 : Nat) < (1 : Nat) ∧ rI (suH (pOf (SV.agg [SV.int IntKind.i64 p.k, SV.lst (4 : Nat) p.f.n p.f.el])) L_1 true i - suL (pOf (SV.agg [SV.int IntKind.i64 p.k, SV.lst (4 : Nat) p.f.n p.f.el])) L false i) ∧ (anB (whL p i true) (p.f.to i.toNat) z = true → (¬anB (whL p i true) (p.f.fr i.toNat) z = true → (suH (pOf (SV.agg [SV.int IntKind.i64 p.k, SV.lst (4 : Nat) p.f.n p.f.el])) L_1 true i - suL (pOf (SV.agg [SV.int IntKind.i64 p.k, SV.lst (4 : Nat) p.f.n
 p.f.el])) L false i = tgE true p i.toNat → (¬tgE true p i.toNat = own true p.f i.toNat → rE true ∧ True) ∧ (¬¬tgE true p i.toNat = own true p.f i.toNat → false = true ∧ True)) ∧ (¬suH (pOf (SV.agg [SV.int IntKind.i64 p.k, SV.lst (4 : Nat) p.f.n p.f.el])) L_1 true i - suL (pOf (SV.agg [SV.int IntKind.i64 p.k, SV.lst (4 : Nat) p.f.n p.f.el])) L false i = tgE true p i.toNat → false = true ∧ True)) ∧ (¬¬anB (whL p i true) (p.f.fr i.toNat) z = true → false = true ∧ True)) ∧ (¬anB (whL p i true) (p.f.to i.toNat) z = true → false = true ∧ True))))))))))))) := by kernel_rfl
end Go.Proofs.Ytnbeifpcmjnlkaa

set_option maxRecDepth 100000
namespace Go.Proofs.Ytnbeifpcmjnlkaa
open Go Go.Lg
attribute [local irreducible] funS bodyH
theorem fl_srt {p : Nat → Bool} : ∀ {k i : Nat}, i < (fl p k).length → (fl p k).getD i 0 < k ∧ p ((fl p k).getD i 0) = true ∧ (0 < i → (fl p k).getD (i - 1) 0 < (fl p k).getD i 0)
  | 0, i, h => by simp [fl] at h
  | k + 1, i, h => by
    by_cases hp : p k = true
    · rw [fl_y hp] at h ⊢
      simp only [List.length_append, List.length_singleton] at h
      have ea : ∀ j, j < (fl p k).length → (fl p k ++ [k]).getD j 0 = (fl p k).getD j 0 := fun j hj => by simp [List.getD, List.getElem?_append_left hj]
      by_cases hi : i < (fl p k).length
      · have ih := fl_srt (p := p) (k := k) hi
        rw [ea i hi]
        refine ⟨by omega, ih.2.1, fun h0 => ?_⟩
        rw [ea (i - 1) (by omega)]
        exact ih.2.2 h0
      · have e : i = (fl p k).length := by omega
        have eg : (fl p k ++ [k]).getD i 0 = k := by rw [e]; simp [List.getD]
        rw [eg]
        refine ⟨by omega, hp, fun h0 => ?_⟩
        rw [ea (i - 1) (by omega)]
        exact (fl_srt (p := p) (k := k) (i := i - 1) (by omega)).1
    · rw [fl_n hp] at h ⊢
      have ih := fl_srt (p := p) (k := k) h
      exact ⟨by omega, ih.2⟩
theorem mem_pl {s x : Nat} : x ∈ plL s ↔ x < 8 ∧ hb s (x : Int) = true := by
  unfold plL fl
  simp [List.mem_filter]
structure plF (k : Int) (s : Nat) : Prop where
  len : (plL s).length ≤ 8
  at_ : ∀ i, i < (plL s).length → ¬ k ≤ (((plL s).getD i 0 : Nat) : Int) ∧ (0 < i → (plL s).getD (i - 1) 0 < (plL s).getD i 0)
  lt : ∀ y ∈ plL s, y < 16
  has : ∀ x : Int, 0 ≤ x → x < k → (plL s).contains x.toNat = hb s x
theorem pl_facts {k : Int} {s : Nat} (hk : k ≤ 8) (hs : s < pwk k) : plF k s := by
  refine ⟨fl_le 8, fun i hi => ?_, fun y hy => by have := (mem_pl.1 hy).1; omega, fun x h0 hx => ?_⟩
  · obtain ⟨h1, h2, h3⟩ := fl_srt hi
    refine ⟨fun hc => ?_, h3⟩
    have h2 : hb s (((plL s).getD i 0 : Nat) : Int) = true := h2
    unfold hb at h2
    rw [Nat.testBit_lt_two_pow (Nat.lt_of_lt_of_le hs (Nat.pow_le_pow_right (by omega) (by omega)))] at h2
    cases h2
  · have e : (x.toNat : Int) = x := by omega
    have : (plL s).contains x.toNat = true ↔ hb s x = true := by
      rw [List.contains_iff_mem, mem_pl, e]
      exact ⟨fun h => h.2, fun h => ⟨by omega, h⟩⟩
    cases h1 : (plL s).contains x.toNat <;> cases h2 : hb s x <;> simp_all
theorem sm_but {p : Nat → Bool} {g : Nat → Int} {b : Int} : ∀ n : Nat, sm (fun j => !decide ((j : Int) = b) && p j) g n = sm p g n - (if (0 ≤ b ∧ b < n) ∧ p b.toNat = true then g b.toNat else 0)
  | 0 => by
    have : ¬ ((0 ≤ b ∧ b < ((0 : Nat) : Int)) ∧ p b.toNat = true) := fun h => by omega
    rw [if_neg this]; simp [sm]
  | n + 1 => by
    have ih := sm_but (p := p) (g := g) (b := b) n
    simp only [sm, ih]
    by_cases e : (n : Int) = b
    · have e2 : b.toNat = n := by omega
      have c1 : ¬ ((0 ≤ b ∧ b < (n : Int)) ∧ p b.toNat = true) := fun h => by omega
      rw [if_neg c1]
      simp only [e, decide_true, Bool.not_true, Bool.false_and, cond_false]
      cases hp : p n
      · rw [if_neg fun h => by rw [e2, hp] at h; exact absurd h.2 (by simp)]; simp
      · rw [if_pos ⟨by omega, by rw [e2]; exact hp⟩, e2]; simp
    · have c : ((0 ≤ b ∧ b < (n : Int)) ∧ p b.toNat = true) ↔ ((0 ≤ b ∧ b < ((n + 1 : Nat) : Int)) ∧ p b.toNat = true) := ⟨fun h => ⟨by omega, h.2⟩, fun h => ⟨by omega, h.2⟩⟩
      simp only [c, e, decide_false, Bool.not_false, Bool.true_and]
      omega
theorem cr_f {p : Pl} (hp : okP p) {s : Nat} (hs : s < pwk p.k) {b : Int} {j : Nat} (hj : j < p.f.n) : crB p.f (plL s) false b j = (!decide ((j : Int) = b) && tkB p.f s j) ∧ crB p.f (plL s) true b j = (!decide ((j : Int) = b) && gvB p.f s j) := by
  have F := pl_facts hp.k.2 hs
  have h1 := hp.fr j hj
  have h2 := hp.to j hj
  unfold crB tkB gvB
  rw [F.has _ h1.1 h1.2, F.has _ h2.1 h2.2]
  cases hb s (p.f.fr j) <;> cases hb s (p.f.to j) <;> simp
theorem su_f {p : Pl} (hp : okP p) {s : Nat} (hs : s < pwk p.k) (b : Int) (g : Nat → Int) :
    sm (crB p.f (plL s) false b) g p.f.n = sm (tkB p.f s) g p.f.n - (if (0 ≤ b ∧ b < p.f.n) ∧ tkB p.f s b.toNat = true then g b.toNat else 0) ∧
    sm (crB p.f (plL s) true b) g p.f.n = sm (gvB p.f s) g p.f.n - (if (0 ≤ b ∧ b < p.f.n) ∧ gvB p.f s b.toNat = true then g b.toNat else 0) := by
  rw [← sm_but, ← sm_but]
  exact ⟨sm_congr fun j hj => ⟨(cr_f hp hs hj).1, fun _ => rfl⟩, sm_congr fun j hj => ⟨(cr_f hp hs hj).2, fun _ => rfl⟩⟩
theorem an_0 (L : List Nat) (v : Int) : False ↔ anB L v 0 = true := by simp [anB]
theorem an_s {L : List Nat} {v : Int} {i : Nat} (hi : i < L.length) : anB L v (i + 1) = (anB L v i || decide (((L.getD i 0 : Nat) : Int) = v)) := by
  unfold anB
  have e : L.take (i + 1) = L.take i ++ [L.getD i 0] := by
    rw [List.take_add_one]
    simp [List.getD, hi]
  rw [e, List.any_append]
  simp
theorem an_e {k : Int} {s : Nat} (hk : k ≤ 8) (hs : s < pwk k) {v : Int} (h0 : 0 ≤ v) (hv : v < k) : anB (plL s) v (plL s).length = hb s v := by
  unfold anB
  rw [List.take_length]
  have : ((plL s).any fun y => decide ((y : Int) = v)) = true ↔ hb s v = true := by
    rw [List.any_eq_true]
    constructor
    · rintro ⟨y, hy, h⟩
      rw [decide_eq_true_eq] at h
      rw [← h]
      exact (mem_pl.1 hy).2
    · intro h
      refine ⟨v.toNat, mem_pl.2 ⟨by omega, by rw [show ((v.toNat : Nat) : Int) = v by omega]; exact h⟩, by rw [decide_eq_true_eq]; omega⟩
  cases h1 : ((plL s).any fun y => decide ((y : Int) = v)) <;> cases h2 : hb s v <;> simp_all
theorem ok_g {p : Pl} (h : okP p) : okG p := by
  have hk := h.k
  refine ⟨by have := h.n; omega, fun i hi => ?_, fun i hi => ?_, fun i hi => ?_, fun i hi => ?_⟩
  · have := h.fr i hi; omega
  · have := h.to i hi; omega
  · have := h.gas i hi; omega
  · have := h.gas i hi; omega
theorem pr_set {b : Bool} {p : Pl} {i : Nat} (h : ¬ tgE b p i = own b p.f i) : prS b p i (tgE b p i) < pwk p.k ∧ tkB p.f (prS b p i (tgE b p i)) i = true ∧ bnd b p.f i (prS b p i (tgE b p i)) = tgE b p i := by
  have ex : ∃ s, s < pwk p.k ∧ tkB p.f s i = true ∧ tgE b p i = bnd b p.f i s := by
    cases b
    · exact (tgt_lo (f := p.f) (i := i) (pwk p.k)).2.2.resolve_left h
    · exact (tgt_hi (f := p.f) (i := i) (pwk p.k)).2.2.resolve_left h
  obtain ⟨s, hs, ht, he⟩ := ex
  obtain ⟨h1, h2, h3⟩ := fst_spec (prP b p.f i (tgE b p i)) (pwk p.k)
  have hl : fstN (prP b p.f i (tgE b p i)) (pwk p.k) < pwk p.k := by
    apply Classical.byContradiction
    intro hx
    have := h2 s (by omega)
    simp [prP, ht, ← he] at this
  have h4 := h3 hl
  have e : prS b p i (tgE b p i) = fstN (prP b p.f i (tgE b p i)) (pwk p.k) := by unfold prS; rw [if_pos hl]
  rw [e]
  refine ⟨hl, ?_⟩
  simpa [prP] using h4
end Go.Proofs.Ytnbeifpcmjnlkaa

set_option maxRecDepth 100000
namespace Go.Proofs.Ytnbeifpcmjnlkaa
open Go Go.Lg
attribute [local irreducible] funS bodyH
theorem prv_t {p : Pl} {i : Int} : prvt p i := by
  rw [prvt_vc]
  simp only [rI, rE, tt3, tt4, tt5, tt13, tt14, and_true, true_and, Nat.zero_lt_one, and_self, implies_true, Int.toNat_natCast, Nat.zero_add, Nat.add_zero, Nat.one_mul, Nat.mul_one, Classical.not_not, iff_self, Bool.false_eq_true, imp_false, and_imp, true_implies, forall_const, ff1, ff2, psv, p_fold, lstI]
  intro _
  by_cases hp : okP p
  · have hk := hp.k
    have hn := hp.n
    have hG := ok_g hp
    have R1 : wrE p = bif cEx p then 0 else 4 := by rw [wrE, if_pos hp]
    have C1 : chE p = bif cEx p then 6 else 0 := by rw [chE, if_pos hp]
    have WO : (i < 0 ∨ (p.f.n : Int) ≤ i) → whE p i true = 2 ∧ whL p i true = [] := fun h => by
      have e : whE p i true = 2 := by rw [whE, if_pos hp, if_pos h]
      exact ⟨e, by rw [whL, if_neg (by omega)]⟩
    refine ⟨fun h => ?_, fun _ => ⟨fun h => absurd hp h, fun _ => ⟨fun hR => ?_, fun hR => ?_⟩⟩⟩
    · rw [R1] at h; cases hc : cEx p <;> rw [hc] at h <;> exact absurd h (by decide)
    · have hc : cEx p = true := by
        cases hc : cEx p
        · rw [R1, hc] at hR; exact absurd hR (by decide)
        · rfl
      rw [hc] at C1
      have C1 : chE p = 6 := C1
      have hS := cFs_lt (p := p)
      have hbad : bad p.f (cFs p) = true := by
        have e : cFs p = fstN (bad p.f) (pwk p.k) := by unfold cFs; rw [hc]; rfl
        rw [e]
        refine (fst_spec (bad p.f) (pwk p.k)).2.2 ?_
        unfold cEx at hc
        exact of_decide_eq_true hc
      have hL : wrL p = plL (cFs p) := by rw [wrL, if_pos hR]
      have F := pl_facts hk.2 hS
      have hlen := F.len
      rw [hL]
      refine ⟨⟨0, ⟨by omega, hp, hR⟩, rfl⟩, fun z hz _ _ => ⟨fun hl => ?_, fun hl => ⟨fun _ => ⟨hG, plL (cFs p), rfl, ⟨by omega, F.lt⟩, hG, plL (cFs p), rfl, ⟨by omega, F.lt⟩, fun _ hw => ?_, ?_⟩, C1⟩⟩⟩
      · obtain ⟨f1, f2⟩ := F.at_ z (by omega)
        have nx : ((-9223372036854775808 : Int) ≤ (z : Int) + 1 ∧ (z : Int) + 1 ≤ 9223372036854775807) ∧ ∃ z_1 : Nat, (z_1 ≤ (plL (cFs p)).length ∧ okP p ∧ wrE p = 0) ∧ (plL (cFs p)).length - z_1 < (plL (cFs p)).length - z ∧ (z : Int) + 1 = z_1 := ⟨by omega, z + 1, ⟨by omega, hp, hR⟩, by omega, by omega⟩
        refine ⟨by omega, hl, by omega, fun _ => ⟨by omega, hl, f1, fun _ => ⟨fun h0 => ⟨by omega, hl, by omega, by omega, by omega, ?_, fun _ => nx⟩, fun _ => nx⟩⟩⟩
        have := f2 (by omega)
        rw [show ((z : Int) - 1).toNat = z - 1 by omega]
        omega
      · by_cases hi : i < 0 ∨ (p.f.n : Int) ≤ i
        · exact ⟨fun _ h => hi.resolve_left h, (WO hi).1⟩
        · exact absurd (by rw [whE, if_pos hp, if_neg hi, if_neg (by omega), C1]) hw
      · have e1 := (su_f hp hS (-1) p.f.lo).1
        have e2 := (su_f hp hS (-1) p.f.hi).2
        have g1 := bad_t.1 hbad
        have c1 : ¬ ((0 ≤ (-1 : Int) ∧ (-1 : Int) < p.f.n) ∧ tkB p.f (cFs p) (-1 : Int).toNat = true) := fun h => absurd h.1.1 (by decide)
        have c2 : ¬ ((0 ≤ (-1 : Int) ∧ (-1 : Int) < p.f.n) ∧ gvB p.f (cFs p) (-1 : Int).toNat = true) := fun h => absurd h.1.1 (by decide)
        rw [if_neg c1] at e1
        rw [if_neg c2] at e2
        have e1 : suL p (plL (cFs p)) false (-1) = IL p.f (cFs p) - 0 := e1
        have e2 : suH p (plL (cFs p)) true (-1) = OH p.f (cFs p) - 0 := e2
        omega
    · have hc : cEx p = false := by
        cases hc : cEx p
        · rfl
        · rw [R1, hc] at hR; exact absurd rfl hR
      rw [hc] at C1 R1
      have C1 : chE p = 0 := C1
      have hH := cEx_hof.1 hc
      have hN : okN p = p.f.n := by rw [okN, if_pos C1]
      rw [hN]
      refine ⟨R1, fun _ => ⟨C1, fun _ => ⟨rfl, fun _ => ⟨fun hi => ?_, fun hi => ⟨fun hi2 => ?_, fun hi2 => ?_⟩⟩⟩⟩⟩
      · obtain ⟨w1, w2⟩ := WO (.inl hi)
        simp [w1, w2]
      · obtain ⟨w1, w2⟩ := WO (.inr hi2)
        simp [w1, w2]
      have hW : whE p i true = if tgE true p i.toNat = own true p.f i.toNat then 4 else 0 := by rw [whE, if_pos hp, if_neg (by omega), if_pos C1]
      refine ⟨by omega, by omega, by omega, by omega, by omega, by omega, fun hw => ?_, fun hw => ?_⟩
      · have he : tgE true p i.toNat = own true p.f i.toNat := by
          apply Classical.byContradiction
          intro hx
          rw [if_neg hx] at hW
          exact hw hW
        rw [if_pos he] at hW
        have hwl : whL p i true = [] := by rw [whL, if_neg hw]
        exact ⟨fun _ => ⟨fun _ => he, by rw [hwl]; rfl⟩, hW⟩
      · have he : ¬ tgE true p i.toNat = own true p.f i.toNat := by
          intro hx
          rw [if_pos hx, hw] at hW
          exact absurd hW (by decide)
        obtain ⟨s1, s2, s3⟩ := pr_set he
        have hL : whL p i true = plL (prS true p i.toNat (tgE true p i.toNat)) := by rw [whL, if_pos hw]
        rw [hL]
        generalize hSe : prS true p i.toNat (tgE true p i.toNat) = S at s1 s2 s3
        have F := pl_facts hk.2 s1
        have hlen := F.len
        have q1 := hp.fr i.toNat (by omega)
        have q2 := hp.to i.toNat (by omega)
        have A1 := an_0 (plL S) (p.f.fr i.toNat)
        have A2 := an_0 (plL S) (p.f.to i.toNat)
        refine ⟨⟨0, ⟨by omega, by omega, hp, hH, hw⟩, rfl, A1, A2, rfl⟩, fun z hz _ _ _ _ _ => ⟨fun hl => ?_, fun hl => ?_⟩⟩
        · obtain ⟨f1, f2⟩ := F.at_ z (by omega)
          have B1 := an_s (L := plL S) (v := p.f.fr i.toNat) (i := z) (by omega)
          have B2 := an_s (L := plL S) (v := p.f.to i.toNat) (i := z) (by omega)
          have I0 : 0 ≤ i ∧ i < (p.f.n : Int) := by omega
          have nx : ∀ {a c : Prop}, (a ↔ anB (plL S) (p.f.fr i.toNat) (z + 1) = true) → (c ↔ anB (plL S) (p.f.to i.toNat) (z + 1) = true) → ((-9223372036854775808 : Int) ≤ (z : Int) + 1 ∧ (z : Int) + 1 ≤ 9223372036854775807) ∧ ∃ z_1 : Nat, (z_1 ≤ (plL S).length ∧ (0 ≤ i ∧ i < (p.f.n : Int)) ∧ okP p ∧ Hof p ∧ whE p i true = 0) ∧ (plL S).length - z_1 < (plL S).length - z ∧ (a ↔ anB (plL S) (p.f.fr i.toNat) z_1 = true) ∧ (c ↔ anB (plL S) (p.f.to i.toNat) z_1 = true) ∧ (z : Int) + 1 = z_1 := fun ha hc => ⟨by omega, z + 1, ⟨by omega, I0, hp, hH, hw⟩, by omega, ha, hc, by omega⟩
          have Y1 : anB (plL S) (p.f.fr i.toNat) z = true → (True ↔ anB (plL S) (p.f.fr i.toNat) (z + 1) = true) := fun h => by rw [B1, h]; simp
          have Y2 : anB (plL S) (p.f.to i.toNat) z = true → (True ↔ anB (plL S) (p.f.to i.toNat) (z + 1) = true) := fun h => by rw [B2, h]; simp
          have N1 : ¬ anB (plL S) (p.f.fr i.toNat) z = true → ((((plL S).getD z 0 : Nat) : Int) = p.f.fr i.toNat ↔ anB (plL S) (p.f.fr i.toNat) (z + 1) = true) := fun h => by
            have : anB (plL S) (p.f.fr i.toNat) z = false := by simpa using h
            rw [B1, this, Bool.false_or, decide_eq_true_eq]
          have N2 : ¬ anB (plL S) (p.f.to i.toNat) z = true → ((((plL S).getD z 0 : Nat) : Int) = p.f.to i.toNat ↔ anB (plL S) (p.f.to i.toNat) (z + 1) = true) := fun h => by
            have : anB (plL S) (p.f.to i.toNat) z = false := by simpa using h
            rw [B2, this, Bool.false_or, decide_eq_true_eq]
          refine ⟨by omega, hl, by omega, fun _ => ⟨by omega, hl, f1, fun _ => ⟨fun h0 => ⟨by omega, hl, by omega, by omega, by omega, ?_, fun _ => ?_⟩, fun _ => ?_⟩⟩⟩
          · have := f2 (by omega)
            rw [show ((z : Int) - 1).toNat = z - 1 by omega]
            omega
          · exact ⟨fun a => ⟨fun c => nx (Y1 a) (Y2 c), fun c => ⟨by omega, hl, nx (Y1 a) (N2 c)⟩⟩, fun a => ⟨by omega, hl, fun c => nx (N1 a) (Y2 c), fun c => ⟨by omega, hl, nx (N1 a) (N2 c)⟩⟩⟩
          · exact ⟨fun a => ⟨fun c => nx (Y1 a) (Y2 c), fun c => ⟨by omega, hl, nx (Y1 a) (N2 c)⟩⟩, fun a => ⟨by omega, hl, fun c => nx (N1 a) (Y2 c), fun c => ⟨by omega, hl, nx (N1 a) (N2 c)⟩⟩⟩
        · have ez : z = (plL S).length := by omega
          have E1 := an_e hk.2 s1 q1.1 q1.2
          have E2 := an_e hk.2 s1 q2.1 q2.2
          have t1 : hb S (p.f.to i.toNat) = true := by
            unfold tkB at s2
            revert s2
            cases hb S (p.f.to i.toNat) <;> simp
          have t2 : hb S (p.f.fr i.toNat) = false := by
            unfold tkB at s2
            revert s2
            cases hb S (p.f.to i.toNat) <;> cases hb S (p.f.fr i.toNat) <;> simp
          have hI : (0 ≤ i ∧ i < (p.f.n : Int)) := by omega
          have c1 : (0 ≤ i ∧ i < (p.f.n : Int)) ∧ tkB p.f S i.toNat = true := ⟨hI, s2⟩
          have c2 : ¬ ((0 ≤ i ∧ i < (p.f.n : Int)) ∧ gvB p.f S i.toNat = true) := fun h => tk_gv s2 h.2
          have e1 := (su_f hp s1 i p.f.lo).1
          have e2 := (su_f hp s1 i p.f.hi).1
          have e3 := (su_f hp s1 i p.f.lo).2
          have e4 := (su_f hp s1 i p.f.hi).2
          rw [if_pos c1] at e1 e2
          rw [if_neg c2] at e3 e4
          have e1 : suL p (plL S) false i = IL p.f S - p.f.lo i.toNat := e1
          have e2 : suH p (plL S) false i = IH p.f S - p.f.hi i.toNat := e2
          have e3 : suL p (plL S) true i = OL p.f S - 0 := e3
          have e4 : suH p (plL S) true i = OH p.f S - 0 := e4
          have l1 : -2147483648 * (p.f.n : Int) ≤ IL p.f S ∧ IL p.f S ≤ 2147483648 * (p.f.n : Int) := sm_le hG.lo _ (Nat.le_refl _)
          have l2 : -2147483648 * (p.f.n : Int) ≤ IH p.f S ∧ IH p.f S ≤ 2147483648 * (p.f.n : Int) := sm_le hG.hi _ (Nat.le_refl _)
          have l3 : -2147483648 * (p.f.n : Int) ≤ OL p.f S ∧ OL p.f S ≤ 2147483648 * (p.f.n : Int) := sm_le hG.lo _ (Nat.le_refl _)
          have l4 : -2147483648 * (p.f.n : Int) ≤ OH p.f S ∧ OH p.f S ≤ 2147483648 * (p.f.n : Int) := sm_le hG.hi _ (Nat.le_refl _)
          have g := hp.gas i.toNat (by omega)
          have s3 : bnd true p.f i.toNat S = tgE true p i.toNat := s3
          simp only [bnd, cond_true, cond_false] at s3
          rw [ez, E1, E2, t1, t2]
          refine ⟨hG, plL S, rfl, ⟨by omega, F.lt⟩, hG, plL S, rfl, ⟨by omega, F.lt⟩, ?_⟩
          simp only [true_implies, Bool.false_eq_true, not_false_eq_true, and_true]
          exact ⟨by omega, by omega, fun _ => he, by omega⟩
  · have R1 : wrE p = 1 := by rw [wrE, if_neg hp]
    have C1 : chE p = 1 := by rw [chE, if_neg hp]
    have W1 : whE p i true = 1 := by rw [whE, if_neg hp]
    have R2 : wrL p = [] := by rw [wrL, if_neg (by omega)]
    have W2 : whL p i true = [] := by rw [whL, if_neg (by omega)]
    have N1 : okN p = 0 := by rw [okN, if_neg (by omega)]
    refine ⟨fun _ => ?_, fun h => absurd R1 h⟩
    simp [R1, C1, W1, R2, W2, N1]
theorem prv_f {p : Pl} {i : Int} : prvf p i := by
  rw [prvf_vc]
  simp only [rI, rE, tt3, tt4, tt5, tt13, tt14, and_true, true_and, Nat.zero_lt_one, and_self, implies_true, Int.toNat_natCast, Nat.zero_add, Nat.add_zero, Nat.one_mul, Nat.mul_one, Classical.not_not, iff_self, Bool.false_eq_true, imp_false, and_imp, true_implies, forall_const, ff1, ff2, psv, p_fold, lstI]
  intro _
  by_cases hp : okP p
  · have hk := hp.k
    have hn := hp.n
    have hG := ok_g hp
    have R1 : wrE p = bif cEx p then 0 else 4 := by rw [wrE, if_pos hp]
    have C1 : chE p = bif cEx p then 6 else 0 := by rw [chE, if_pos hp]
    have WO : (i < 0 ∨ (p.f.n : Int) ≤ i) → whE p i false = 2 ∧ whL p i false = [] := fun h => by
      have e : whE p i false = 2 := by rw [whE, if_pos hp, if_pos h]
      exact ⟨e, by rw [whL, if_neg (by omega)]⟩
    refine ⟨fun h => ?_, fun _ => ⟨fun h => absurd hp h, fun _ => ⟨fun hR => ?_, fun hR => ?_⟩⟩⟩
    · rw [R1] at h; cases hc : cEx p <;> rw [hc] at h <;> exact absurd h (by decide)
    · have hc : cEx p = true := by
        cases hc : cEx p
        · rw [R1, hc] at hR; exact absurd hR (by decide)
        · rfl
      rw [hc] at C1
      have C1 : chE p = 6 := C1
      have hS := cFs_lt (p := p)
      have hbad : bad p.f (cFs p) = true := by
        have e : cFs p = fstN (bad p.f) (pwk p.k) := by unfold cFs; rw [hc]; rfl
        rw [e]
        refine (fst_spec (bad p.f) (pwk p.k)).2.2 ?_
        unfold cEx at hc
        exact of_decide_eq_true hc
      have hL : wrL p = plL (cFs p) := by rw [wrL, if_pos hR]
      have F := pl_facts hk.2 hS
      have hlen := F.len
      rw [hL]
      refine ⟨⟨0, ⟨by omega, hp, hR⟩, rfl⟩, fun z hz _ _ => ⟨fun hl => ?_, fun hl => ⟨fun _ => ⟨hG, plL (cFs p), rfl, ⟨by omega, F.lt⟩, hG, plL (cFs p), rfl, ⟨by omega, F.lt⟩, fun _ hw => ?_, ?_⟩, C1⟩⟩⟩
      · obtain ⟨f1, f2⟩ := F.at_ z (by omega)
        have nx : ((-9223372036854775808 : Int) ≤ (z : Int) + 1 ∧ (z : Int) + 1 ≤ 9223372036854775807) ∧ ∃ z_1 : Nat, (z_1 ≤ (plL (cFs p)).length ∧ okP p ∧ wrE p = 0) ∧ (plL (cFs p)).length - z_1 < (plL (cFs p)).length - z ∧ (z : Int) + 1 = z_1 := ⟨by omega, z + 1, ⟨by omega, hp, hR⟩, by omega, by omega⟩
        refine ⟨by omega, hl, by omega, fun _ => ⟨by omega, hl, f1, fun _ => ⟨fun h0 => ⟨by omega, hl, by omega, by omega, by omega, ?_, fun _ => nx⟩, fun _ => nx⟩⟩⟩
        have := f2 (by omega)
        rw [show ((z : Int) - 1).toNat = z - 1 by omega]
        omega
      · by_cases hi : i < 0 ∨ (p.f.n : Int) ≤ i
        · exact ⟨fun _ h => hi.resolve_left h, (WO hi).1⟩
        · exact absurd (by rw [whE, if_pos hp, if_neg hi, if_neg (by omega), C1]) hw
      · have e1 := (su_f hp hS (-1) p.f.lo).1
        have e2 := (su_f hp hS (-1) p.f.hi).2
        have g1 := bad_t.1 hbad
        have c1 : ¬ ((0 ≤ (-1 : Int) ∧ (-1 : Int) < p.f.n) ∧ tkB p.f (cFs p) (-1 : Int).toNat = true) := fun h => absurd h.1.1 (by decide)
        have c2 : ¬ ((0 ≤ (-1 : Int) ∧ (-1 : Int) < p.f.n) ∧ gvB p.f (cFs p) (-1 : Int).toNat = true) := fun h => absurd h.1.1 (by decide)
        rw [if_neg c1] at e1
        rw [if_neg c2] at e2
        have e1 : suL p (plL (cFs p)) false (-1) = IL p.f (cFs p) - 0 := e1
        have e2 : suH p (plL (cFs p)) true (-1) = OH p.f (cFs p) - 0 := e2
        omega
    · have hc : cEx p = false := by
        cases hc : cEx p
        · rfl
        · rw [R1, hc] at hR; exact absurd rfl hR
      rw [hc] at C1 R1
      have C1 : chE p = 0 := C1
      have hH := cEx_hof.1 hc
      have hN : okN p = p.f.n := by rw [okN, if_pos C1]
      rw [hN]
      refine ⟨R1, fun _ => ⟨C1, fun _ => ⟨rfl, fun _ => ⟨fun hi => ?_, fun hi => ⟨fun hi2 => ?_, fun hi2 => ?_⟩⟩⟩⟩⟩
      · obtain ⟨w1, w2⟩ := WO (.inl hi)
        simp [w1, w2]
      · obtain ⟨w1, w2⟩ := WO (.inr hi2)
        simp [w1, w2]
      have hW : whE p i false = if tgE false p i.toNat = own false p.f i.toNat then 4 else 0 := by rw [whE, if_pos hp, if_neg (by omega), if_pos C1]
      refine ⟨by omega, by omega, by omega, by omega, fun hw => ?_, fun hw => ?_⟩
      · have he : tgE false p i.toNat = own false p.f i.toNat := by
          apply Classical.byContradiction
          intro hx
          rw [if_neg hx] at hW
          exact hw hW
        rw [if_pos he] at hW
        have hwl : whL p i false = [] := by rw [whL, if_neg hw]
        exact ⟨fun _ => ⟨fun _ => he, by rw [hwl]; rfl⟩, hW⟩
      · have he : ¬ tgE false p i.toNat = own false p.f i.toNat := by
          intro hx
          rw [if_pos hx, hw] at hW
          exact absurd hW (by decide)
        obtain ⟨s1, s2, s3⟩ := pr_set he
        have hL : whL p i false = plL (prS false p i.toNat (tgE false p i.toNat)) := by rw [whL, if_pos hw]
        rw [hL]
        generalize hSe : prS false p i.toNat (tgE false p i.toNat) = S at s1 s2 s3
        have F := pl_facts hk.2 s1
        have hlen := F.len
        have q1 := hp.fr i.toNat (by omega)
        have q2 := hp.to i.toNat (by omega)
        have A1 := an_0 (plL S) (p.f.fr i.toNat)
        have A2 := an_0 (plL S) (p.f.to i.toNat)
        refine ⟨⟨0, ⟨by omega, by omega, hp, hH, hw⟩, rfl, A1, A2, rfl⟩, fun z hz _ _ _ _ _ => ⟨fun hl => ?_, fun hl => ?_⟩⟩
        · obtain ⟨f1, f2⟩ := F.at_ z (by omega)
          have B1 := an_s (L := plL S) (v := p.f.fr i.toNat) (i := z) (by omega)
          have B2 := an_s (L := plL S) (v := p.f.to i.toNat) (i := z) (by omega)
          have I0 : 0 ≤ i ∧ i < (p.f.n : Int) := by omega
          have nx : ∀ {a c : Prop}, (a ↔ anB (plL S) (p.f.fr i.toNat) (z + 1) = true) → (c ↔ anB (plL S) (p.f.to i.toNat) (z + 1) = true) → ((-9223372036854775808 : Int) ≤ (z : Int) + 1 ∧ (z : Int) + 1 ≤ 9223372036854775807) ∧ ∃ z_1 : Nat, (z_1 ≤ (plL S).length ∧ (0 ≤ i ∧ i < (p.f.n : Int)) ∧ okP p ∧ Hof p ∧ whE p i false = 0) ∧ (plL S).length - z_1 < (plL S).length - z ∧ (a ↔ anB (plL S) (p.f.fr i.toNat) z_1 = true) ∧ (c ↔ anB (plL S) (p.f.to i.toNat) z_1 = true) ∧ (z : Int) + 1 = z_1 := fun ha hc => ⟨by omega, z + 1, ⟨by omega, I0, hp, hH, hw⟩, by omega, ha, hc, by omega⟩
          have Y1 : anB (plL S) (p.f.fr i.toNat) z = true → (True ↔ anB (plL S) (p.f.fr i.toNat) (z + 1) = true) := fun h => by rw [B1, h]; simp
          have Y2 : anB (plL S) (p.f.to i.toNat) z = true → (True ↔ anB (plL S) (p.f.to i.toNat) (z + 1) = true) := fun h => by rw [B2, h]; simp
          have N1 : ¬ anB (plL S) (p.f.fr i.toNat) z = true → ((((plL S).getD z 0 : Nat) : Int) = p.f.fr i.toNat ↔ anB (plL S) (p.f.fr i.toNat) (z + 1) = true) := fun h => by
            have : anB (plL S) (p.f.fr i.toNat) z = false := by simpa using h
            rw [B1, this, Bool.false_or, decide_eq_true_eq]
          have N2 : ¬ anB (plL S) (p.f.to i.toNat) z = true → ((((plL S).getD z 0 : Nat) : Int) = p.f.to i.toNat ↔ anB (plL S) (p.f.to i.toNat) (z + 1) = true) := fun h => by
            have : anB (plL S) (p.f.to i.toNat) z = false := by simpa using h
            rw [B2, this, Bool.false_or, decide_eq_true_eq]
          refine ⟨by omega, hl, by omega, fun _ => ⟨by omega, hl, f1, fun _ => ⟨fun h0 => ⟨by omega, hl, by omega, by omega, by omega, ?_, fun _ => ?_⟩, fun _ => ?_⟩⟩⟩
          · have := f2 (by omega)
            rw [show ((z : Int) - 1).toNat = z - 1 by omega]
            omega
          · exact ⟨fun a => ⟨fun c => nx (Y1 a) (Y2 c), fun c => ⟨by omega, hl, nx (Y1 a) (N2 c)⟩⟩, fun a => ⟨by omega, hl, fun c => nx (N1 a) (Y2 c), fun c => ⟨by omega, hl, nx (N1 a) (N2 c)⟩⟩⟩
          · exact ⟨fun a => ⟨fun c => nx (Y1 a) (Y2 c), fun c => ⟨by omega, hl, nx (Y1 a) (N2 c)⟩⟩, fun a => ⟨by omega, hl, fun c => nx (N1 a) (Y2 c), fun c => ⟨by omega, hl, nx (N1 a) (N2 c)⟩⟩⟩
        · have ez : z = (plL S).length := by omega
          have E1 := an_e hk.2 s1 q1.1 q1.2
          have E2 := an_e hk.2 s1 q2.1 q2.2
          have t1 : hb S (p.f.to i.toNat) = true := by
            unfold tkB at s2
            revert s2
            cases hb S (p.f.to i.toNat) <;> simp
          have t2 : hb S (p.f.fr i.toNat) = false := by
            unfold tkB at s2
            revert s2
            cases hb S (p.f.to i.toNat) <;> cases hb S (p.f.fr i.toNat) <;> simp
          have hI : (0 ≤ i ∧ i < (p.f.n : Int)) := by omega
          have c1 : (0 ≤ i ∧ i < (p.f.n : Int)) ∧ tkB p.f S i.toNat = true := ⟨hI, s2⟩
          have c2 : ¬ ((0 ≤ i ∧ i < (p.f.n : Int)) ∧ gvB p.f S i.toNat = true) := fun h => tk_gv s2 h.2
          have e1 := (su_f hp s1 i p.f.lo).1
          have e2 := (su_f hp s1 i p.f.hi).1
          have e3 := (su_f hp s1 i p.f.lo).2
          have e4 := (su_f hp s1 i p.f.hi).2
          rw [if_pos c1] at e1 e2
          rw [if_neg c2] at e3 e4
          have e1 : suL p (plL S) false i = IL p.f S - p.f.lo i.toNat := e1
          have e2 : suH p (plL S) false i = IH p.f S - p.f.hi i.toNat := e2
          have e3 : suL p (plL S) true i = OL p.f S - 0 := e3
          have e4 : suH p (plL S) true i = OH p.f S - 0 := e4
          have l1 : -2147483648 * (p.f.n : Int) ≤ IL p.f S ∧ IL p.f S ≤ 2147483648 * (p.f.n : Int) := sm_le hG.lo _ (Nat.le_refl _)
          have l2 : -2147483648 * (p.f.n : Int) ≤ IH p.f S ∧ IH p.f S ≤ 2147483648 * (p.f.n : Int) := sm_le hG.hi _ (Nat.le_refl _)
          have l3 : -2147483648 * (p.f.n : Int) ≤ OL p.f S ∧ OL p.f S ≤ 2147483648 * (p.f.n : Int) := sm_le hG.lo _ (Nat.le_refl _)
          have l4 : -2147483648 * (p.f.n : Int) ≤ OH p.f S ∧ OH p.f S ≤ 2147483648 * (p.f.n : Int) := sm_le hG.hi _ (Nat.le_refl _)
          have g := hp.gas i.toNat (by omega)
          have s3 : bnd false p.f i.toNat S = tgE false p i.toNat := s3
          simp only [bnd, cond_true, cond_false] at s3
          rw [ez, E1, E2, t1, t2]
          refine ⟨hG, plL S, rfl, ⟨by omega, F.lt⟩, hG, plL S, rfl, ⟨by omega, F.lt⟩, ?_⟩
          simp only [true_implies, Bool.false_eq_true, not_false_eq_true, and_true]
          exact ⟨by omega, fun _ => he, by omega⟩
  · have R1 : wrE p = 1 := by rw [wrE, if_neg hp]
    have C1 : chE p = 1 := by rw [chE, if_neg hp]
    have W1 : whE p i false = 1 := by rw [whE, if_neg hp]
    have R2 : wrL p = [] := by rw [wrL, if_neg (by omega)]
    have W2 : whL p i false = [] := by rw [whL, if_neg (by omega)]
    have N1 : okN p = 0 := by rw [okN, if_neg (by omega)]
    refine ⟨fun _ => ?_, fun h => absurd R1 h⟩
    simp [R1, C1, W1, R2, W2, N1]
end Go.Proofs.Ytnbeifpcmjnlkaa

set_option maxRecDepth 100000
namespace Go.Proofs.Ytnbeifpcmjnlkaa
open Go Go.Lg
attribute [local irreducible] funS bodyH
theorem six {Q : Nat → Prop} (h0 : Q 0) (h1 : Q 1) (h2 : Q 2) (h3 : Q 3) (h4 : Q 4) (h5 : Q 5) : ∀ i, i < 6 → Q i := fun i hi => by
  have : i = 0 ∨ i = 1 ∨ i = 2 ∨ i = 3 ∨ i = 4 ∨ i = 5 := by omega
  rcases this with rfl | rfl | rfl | rfl | rfl | rfl <;> assumption
theorem s0_ok : okP s0 := by
  refine ⟨by decide +kernel, by decide +kernel, six ?_ ?_ ?_ ?_ ?_ ?_, six ?_ ?_ ?_ ?_ ?_ ?_, six ?_ ?_ ?_ ?_ ?_ ?_, six ?_ ?_ ?_ ?_ ?_ ?_⟩ <;> decide +kernel
theorem s1_ok : okP s1 := by
  refine ⟨by decide +kernel, by decide +kernel, six ?_ ?_ ?_ ?_ ?_ ?_, six ?_ ?_ ?_ ?_ ?_ ?_, six ?_ ?_ ?_ ?_ ?_ ?_, six ?_ ?_ ?_ ?_ ?_ ?_⟩ <;> decide +kernel
theorem s0_c : cEx s0 = false := by kernel_rfl
theorem s1_c : cEx s1 = true := by kernel_rfl
theorem s1_f : plL (cFs s1) = [0, 1, 2] := by kernel_rfl
theorem s0_E : chE s0 = 0 := by rw [chE, if_pos s0_ok, s0_c]; rfl
theorem s0_N : okN s0 = 6 := by rw [okN, if_pos s0_E]; rfl
theorem a0_ : tgE false s0 0 = 100 := by kernel_rfl
theorem a1_ : tgE false s0 1 = 90 := by kernel_rfl
theorem a2_ : tgE false s0 2 = 5 := by kernel_rfl
theorem a3_ : tgE false s0 3 = 80 := by kernel_rfl
theorem a4_ : tgE false s0 4 = 0 := by kernel_rfl
theorem a5_ : tgE false s0 5 = 80 := by kernel_rfl
theorem b0_ : tgE true s0 0 = 120 := by kernel_rfl
theorem b1_ : tgE true s0 1 = 115 := by kernel_rfl
theorem b2_ : tgE true s0 2 = 10 := by kernel_rfl
theorem b3_ : tgE true s0 3 = 95 := by kernel_rfl
theorem b4_ : tgE true s0 4 = 35 := by kernel_rfl
theorem b5_ : tgE true s0 5 = 95 := by kernel_rfl
theorem f1_ : truF s0 1 = setF s0.f 0 100 := by show setF s0.f 0 (tgE false s0 0) = _; rw [a0_]
theorem t1_ : truV s0 1 = 90 := by show tgE false ⟨s0.k, truF s0 1⟩ 1 = 90; rw [f1_]; kernel_rfl
theorem f2_ : truF s0 2 = setF (setF s0.f 0 100) 1 90 := by show setF (truF s0 1) 1 (truV s0 1) = _; rw [t1_, f1_]
theorem t2_ : truV s0 2 = 10 := by show tgE false ⟨s0.k, truF s0 2⟩ 2 = 10; rw [f2_]; kernel_rfl
theorem f3_ : truF s0 3 = setF (setF (setF s0.f 0 100) 1 90) 2 10 := by show setF (truF s0 2) 2 (truV s0 2) = _; rw [t2_, f2_]
theorem t3_ : truV s0 3 = 80 := by show tgE false ⟨s0.k, truF s0 3⟩ 3 = 80; rw [f3_]; kernel_rfl
theorem f4_ : truF s0 4 = setF (setF (setF (setF s0.f 0 100) 1 90) 2 10) 3 80 := by show setF (truF s0 3) 3 (truV s0 3) = _; rw [t3_, f3_]
theorem t4_ : truV s0 4 = 10 := by show tgE false ⟨s0.k, truF s0 4⟩ 4 = 10; rw [f4_]; kernel_rfl
theorem f5_ : truF s0 5 = setF (setF (setF (setF (setF s0.f 0 100) 1 90) 2 10) 3 80) 4 10 := by show setF (truF s0 4) 4 (truV s0 4) = _; rw [t4_, f4_]
theorem t5_ : truV s0 5 = 80 := by show tgE false ⟨s0.k, truF s0 5⟩ 5 = 80; rw [f5_]; kernel_rfl
theorem w0_ : whE s0 4 true = 0 := by
  rw [whE, if_pos s0_ok, if_neg (by decide +kernel), if_pos s0_E]
  rw [if_neg]
  show ¬ tgE true s0 4 = own true s0.f 4
  rw [b4_]
  decide +kernel
theorem w1_ : whL s0 4 true = [0] := by
  rw [whL, if_pos w0_]
  show plL (prS true s0 4 (tgE true s0 4)) = _
  rw [b4_]
  kernel_rfl
theorem r0_ : wrE s0 = 4 := by rw [wrE, if_pos s0_ok, s0_c]; rfl
theorem r1_ : wrE s1 = 0 := by rw [wrE, if_pos s1_ok, s1_c]; rfl
theorem r2_ : wrL s1 = [0, 1, 2] := by rw [wrL, if_pos r1_, s1_f]
noncomputable def aA : Ans := ⟨okN, truV, tgE false, tgE true, chE, whL, whE, wrL, wrE⟩
theorem A_N : aA.N s0 = 6 := s0_N
theorem A_E : aA.E s0 = 0 := s0_E
theorem A_T : ∀ i, i < 6 → aA.T s0 i = if i = 0 then 100 else if i - 1 = 0 then 90 else if i - 1 - 1 = 0 then 10 else if i - 1 - 1 - 1 = 0 then 80 else if i - 1 - 1 - 1 - 1 = 0 then 10 else 80 := six a0_ t1_ t2_ t3_ t4_ t5_
theorem A_A : ∀ i, i < 6 → aA.A s0 i = if i = 0 then 100 else if i - 1 = 0 then 90 else if i - 1 - 1 = 0 then 5 else if i - 1 - 1 - 1 = 0 then 80 else if i - 1 - 1 - 1 - 1 = 0 then 0 else 80 := six a0_ a1_ a2_ a3_ a4_ a5_
theorem A_B : ∀ i, i < 6 → aA.B s0 i = if i = 0 then 120 else if i - 1 = 0 then 115 else if i - 1 - 1 = 0 then 10 else if i - 1 - 1 - 1 = 0 then 95 else if i - 1 - 1 - 1 - 1 = 0 then 35 else 95 := six b0_ b1_ b2_ b3_ b4_ b5_
theorem A_wl : aA.wl s0 4 true = [0] := w1_
theorem A_we : aA.we s0 4 true = 0 := w0_
theorem A_re0 : aA.re s0 = 4 := r0_
theorem A_re1 : aA.re s1 = 0 := r1_
theorem A_rl1 : aA.rl s1 = [0, 1, 2] := r2_
theorem l3_ : ∀ i, i < 3 → (([0, 1, 2] : List Nat).getD i 0 : Int) = if i = 0 then 0 else if i - 1 = 0 then 1 else 2 := fun i hi => by
  have : i = 0 ∨ i = 1 ∨ i = 2 := by omega
  rcases this with rfl | rfl | rfl <;> rfl
theorem l1_ : ∀ i, i < 1 → (([0] : List Nat).getD i 0 : Int) = 0 := fun i hi => by
  have : i = 0 := by omega
  subst this; rfl
theorem P1 : pOf (SV.agg [SV.int .i64 4, SV.lst 4 6 fun i => s1.f.el i]) = s1 := rfl
theorem awa_true : awaG aA := by
  rw [awaG_vc]
  simp only [rI, rE, tt3, tt4, tt5, tt13, tt14, and_true, true_and, Nat.zero_lt_one, and_self, implies_true, Int.toNat_natCast, Nat.zero_add, Nat.add_zero, Nat.one_mul, Nat.mul_one, Classical.not_not, iff_self, Bool.false_eq_true, imp_false, and_imp, true_implies, forall_const, P1]
  refine ⟨Nat.le_refl _, rfl, Nat.le_refl _, rfl, Nat.le_refl _, rfl, Nat.le_refl _, rfl, ⟨by decide, by decide, by decide, by decide, rfl, fun i _ => rfl, rfl, rfl, fun i _ => rfl, rfl, rfl, fun i _ => rfl, rfl, rfl, six ?_ ?_ ?_ ?_ ?_ ?_⟩, ?_⟩
  · decide
  · decide
  · decide
  · decide
  · decide
  · decide
  simp only [A_N, A_E, A_wl, A_we, A_re0, A_re1, A_rl1, List.length_cons, List.length_nil, and_true, true_and, true_implies, iff_self, implies_true, forall_const]
  have AB : ∀ i, i < 6 → _ ∧ _ := fun i hi => ⟨A_A i hi, A_B i hi⟩
  exact ⟨Nat.le_refl _, rfl, Nat.le_refl _, rfl, rfl, by decide, fun _ => ⟨Nat.le_refl _, rfl, rfl, by decide, fun _ => ⟨Nat.le_refl _, rfl, rfl, by decide, fun _ => ⟨Nat.le_refl _, rfl, rfl, by decide, l3_⟩, l1_⟩, AB⟩, A_T⟩
theorem truD_ok : (truD aA).Ok Try.prog := tru_ok
theorem tghD_ok : (tghD aA).Ok Try.prog := tgh_ok
theorem whyD_ok : (whyD aA).Ok Try.prog := plC_ok (by kernel_rfl) fun w r k hk => by
  split at hk
  · rename_i i b
    exact ⟨_, why_does w i b, hk⟩
  · exact hk.elim
theorem wroD_ok : (wroD aA).Ok Try.prog := wro_ok
theorem csAw_ok : SoundS Try.prog (csAw aA) := ctrs_sound (by
  intro x hx
  simp only [List.mem_cons, List.not_mem_nil, or_false] at hx
  rcases hx with rfl | rfl | rfl | rfl | rfl | rfl | rfl
  · exact truD_ok
  · exact tghD_ok
  · exact whyD_ok
  · exact wroD_ok
  · exact its_ok
  · exact sps_ok
  · exact spa_ok)
theorem awa_does : Does Try.prog 11 true (SV.denL []) (SV.bool true).den := by
  have hh := awa_true
  unfold awaG at hh
  exact okV csAw_ok (inl_sound (ys := none) csSp (litX_sound noX_sound) trivial nil_ic mixed) nil_ic hh trivial
theorem awa_ok : awaC.Ok Try.prog := by
  refine ⟨by kernel_rfl, fun x k hk => ?_⟩
  simp only [awaC] at hk
  split at hk
  · exact ⟨.bool true, awa_does, hk⟩
  · exact hk.elim
end Go.Proofs.Ytnbeifpcmjnlkaa
