import Derived.Test.YtaoegpjlpiminaaJaJaVJb
import Derived.Test.YtaoegpjlpiminaaZb
set_option linter.unusedVariables false
set_option linter.unusedSimpArgs false
namespace Go.Proofs.Ytaoegpjlpiminaa
open Go Go.Lg
attribute [local irreducible] bodyH funS
structure CbP where
  n : Nt
  c : Nat
  f : Nat → Tw
  m : Int
def inS (f : Nat → Tw) (m : Int) (k : Nat) : Prop := ∃ i, i < k ∧ (f i).lo ≤ m ∧ m < (f i).hi
def lnS (f : Nat → Tw) (i : Nat) : Int := (f i).hi - (f i).lo
noncomputable def inD (f : Nat → Tw) (m : Int) (k : Nat) : SV := .dec (inS f m k) (Classical.propDecidable _)
noncomputable def CbP.X (p : CbP) : XS := mkX [vr 5 p.n.sv, vr 1 (i6 p.m)]
structure CbP.ok (p : CbP) : Prop where
  c : p.c ≤ 2
  b : ∀ i, i < p.c → tm (p.f i).lo ∧ tm (p.f i).hi
noncomputable def CbP.res (p : CbP) : SV := .tup [inD p.f p.m p.c, i6 (sumJ (lnS p.f) p.c)]
theorem rdCb (a : List SV) (X : XS) (k : CbP → Prop) (h : (match a with
    | [.lst 2 c f, .ptr 1 0 0] => (match X.row 0 with
      | some R => (match R.f 0 with
        | .agg [.int .i64 u, .int .i64 v, .int .i64 w, .int .i64 x, .int .i64 y] => (match X.row 1 with
          | some R => (match R.f 0 with
            | .int .i64 m => k ⟨⟨u, v, w, x, y⟩, c, ftOf f, m⟩
            | _ => False)
          | none => False)
        | _ => False)
      | none => False)
    | _ => False)) : ∃ s, k s := by
  split at h
  · split at h
    · split at h
      · split at h
        · split at h
          · exact ⟨_, h⟩
          · exact h.elim
        · exact h.elim
      · exact h.elim
    · exact h.elim
  · exact h.elim
noncomputable def cbC : SCtr where
  f := 30
  p := CbP
  pre := CbP.ok
  X0 := CbP.X
  args := fun p => [twL p.c p.f, .ptr 1 0 0]
  res := CbP.res
  rd := fun a X k => match a with
    | [.lst 2 c f, .ptr 1 0 0] => (match X.row 0 with
      | some R => (match R.f 0 with
        | .agg [.int .i64 u, .int .i64 v, .int .i64 w, .int .i64 x, .int .i64 y] => (match X.row 1 with
          | some R => (match R.f 0 with
            | .int .i64 m => k ⟨⟨u, v, w, x, y⟩, c, ftOf f, m⟩
            | _ => False)
          | none => False)
        | _ => False)
      | none => False)
    | _ => False
  rdOK := rdCb
noncomputable def cbG (p : CbP) : Prop := stH Try.prog (ctrs []) noX (ictrs []) (oneL 0 (natH (fun k => k ≤ p.c) (fun k => p.c - k) 2
  (fun k => mkF 36 [(1, .ptr 1 0 0), (3, inD p.f p.m k), (4, i6 (sumJ (lnS p.f) k)), (7, twL p.c p.f), (8, i6 p.c), (9, i6 k)]) (fun _ => p.X) fun _ => none)) noL 30 p.X [twL p.c p.f, .ptr 1 0 0] p.res
def awC : Ctr := ⟨14, fun args k => match args with
  | [] => k (.bool true)
  | _ => False⟩
noncomputable def csB : CSpec := ctrsQ [cbC] (ctrsF [brC] (ctrs [ngC 29, awC]))
noncomputable def lpL (n : Nt) (a b : Int) : Nat → Option HSpec := oneL 0 (natH (fun k => k ≤ (rl n).length) (fun k => (rl n).length - k) 2
  (fun k => mkF 165 [(2, .int .u8 b), (3, .ptr 0 0 0), (7, lL (rl n)), (9, .ptr 1 0 0), (10, .clo (.func 30) [] [.ptr 1 0 0]), (52, lL (rl n)), (53, i6 (rl n).length), (54, i6 k)]) (fun _ => mkX [vr 5 n.sv, vr 1 (i6 (a.tmod 2881))]) fun _ => none)
noncomputable def lbG (n : Nt) (a b : Int) : Prop := funH Try.prog csB noX (ictrs []) (lpL n a b) noL 7 [n.sv, .int .u16 a, .int .u8 b] (.bool true)
end Go.Proofs.Ytaoegpjlpiminaa

set_option maxRecDepth 100000
namespace Go.Proofs.Ytaoegpjlpiminaa
open Go Go.Lg
theorem cbG_vc (p : CbP) : cbG p =
 ((∀ (i : Nat), i < p.2 → True ∧ True ∧ True) ∧ (∃ (z : Nat), z ≤ p.2 ∧ rE (0 : Nat) ∧ rE (0 : Nat) ∧ (false = true ↔ inS p.f p.m z) ∧ (0 : Int) = sumJ (lnS p.f) z ∧ p.2 = p.2 ∧ (∀ (i : Nat), i < p.2 → rE ((p.f i).sv.den) ∧ True ∧ True ∧ True) ∧ rE (↑p.2 : Int) ∧ (0 : Int) = (↑z : Int) ∧ rE p.n.1 ∧ rE p.n.2 ∧ rE p.n.3 ∧ rE p.n.4 ∧ rE p.n.5 ∧ p.4 = p.4 ∧ True) ∧ ∀ (z : Nat), z ≤ p.2 → ((↑z : Int) < (↑p.2 : Int) → (0 : Int) ≤ (↑z : Int) ∧ (↑z : Int) < (↑p.2 : Int) ∧ (inS p.f p.m z → (0 : Nat) < (1 : Nat) ∧ (0 : Nat) < (1 : Nat) ∧ rI ((p.f (↑z : Int).toNat).2 - (p.f (↑z : Int).toNat).1) ∧ rI (sumJ (lnS p.f) z + ((p.f (↑z : Int).toNat).2 - (p.f (↑z : Int).toNat).1)) ∧ rI ((↑z : Int) + (1 : Int)) ∧ ∃ (z_1 : Nat), z_1 ≤ p.2 ∧ p.2 - z_1 < p.2 - z ∧ rE (0 : Nat) ∧ rE (0 : Nat) ∧ (rE true ↔ inS p.f p.m z_1) ∧ sumJ (lnS p.f) z + ((p.f (↑z : Int).toNat).2 - (p.f (↑z : Int).toNat).1) = sumJ (lnS p.f)
 z_1 ∧ p.2 = p.2 ∧ (∀ (i : Nat), i < p.2 → rE ((p.f i).sv.den) ∧ True ∧ True ∧ True) ∧ rE (↑p.2 : Int) ∧ (↑z : Int) + (1 : Int) = (↑z_1 : Int) ∧ rE p.n.1 ∧ rE p.n.2 ∧ rE p.n.3 ∧ rE p.n.4 ∧ rE p.n.5 ∧ p.4 = p.4 ∧ True) ∧ (¬inS p.f p.m z → (0 : Nat) < (1 : Nat) ∧ (0 : Nat) < (1 : Nat) ∧ ((p.f (↑z : Int).toNat).1 ≤ p.4 → (0 : Nat) < (1 : Nat) ∧ (0 : Nat) < (1 : Nat) ∧ (0 : Nat) < (1 : Nat) ∧ (0 : Nat) < (1 : Nat) ∧ rI ((p.f (↑z : Int).toNat).2 - (p.f (↑z : Int).toNat).1) ∧ rI (sumJ (lnS p.f) z + ((p.f (↑z : Int).toNat).2 - (p.f (↑z : Int).toNat).1)) ∧ rI ((↑z : Int) + (1 : Int)) ∧ ∃ (z_1 : Nat), z_1 ≤ p.2 ∧ p.2 - z_1 < p.2 - z ∧ rE (0 : Nat) ∧ rE (0 : Nat) ∧ (p.4 < (p.f (↑z : Int).toNat).2 ↔ inS p.f p.m z_1) ∧ sumJ (lnS p.f) z + ((p.f (↑z : Int).toNat).2 - (p.f (↑z : Int).toNat).1) = sumJ (lnS p.f) z_1 ∧ p.2 = p.2 ∧ (∀ (i : Nat), i < p.2 → rE ((p.f i).sv.den) ∧ True ∧ True ∧ True) ∧ rE
 (↑p.2 : Int) ∧ (↑z : Int) + (1 : Int) = (↑z_1 : Int) ∧ rE p.n.1 ∧ rE p.n.2 ∧ rE p.n.3 ∧ rE p.n.4 ∧ rE p.n.5 ∧ p.4 = p.4 ∧ True) ∧ (¬(p.f (↑z : Int).toNat).1 ≤ p.4 → (0 : Nat) < (1 : Nat) ∧ (0 : Nat) < (1 : Nat) ∧ rI ((p.f (↑z : Int).toNat).2 - (p.f (↑z : Int).toNat).1) ∧ rI (sumJ (lnS p.f) z + ((p.f (↑z : Int).toNat).2 - (p.f (↑z : Int).toNat).1)) ∧ rI ((↑z : Int) + (1 : Int)) ∧ ∃ (z_1 : Nat), z_1 ≤ p.2 ∧ p.2 - z_1 < p.2 - z ∧ rE (0 : Nat) ∧ rE (0 : Nat) ∧ (false = true ↔ inS p.f p.m z_1) ∧ sumJ (lnS p.f) z + ((p.f (↑z : Int).toNat).2 - (p.f (↑z : Int).toNat).1) = sumJ (lnS p.f) z_1 ∧ p.2 = p.2 ∧ (∀ (i : Nat), i < p.2 → rE ((p.f i).sv.den) ∧ True ∧ True ∧ True) ∧ rE (↑p.2 : Int) ∧ (↑z : Int) + (1 : Int) = (↑z_1 : Int) ∧ rE p.n.1 ∧ rE p.n.2 ∧ rE p.n.3 ∧ rE p.n.4 ∧ rE p.n.5 ∧ p.4 = p.4 ∧ True))) ∧ (¬(↑z : Int) < (↑p.2 : Int) → (inS p.f p.m z ↔ inS p.f p.m p.c) ∧ sumJ (lnS p.f) z = sumJ
 (lnS p.f) p.2 ∧ rE p.n.1 ∧ rE p.n.2 ∧ rE p.n.3 ∧ rE p.n.4 ∧ rE p.n.5 ∧ p.4 = p.4 ∧ True)) := by kernel_rfl
theorem lbG_vc (n : Nt) (a : Int) (b : Int) : lbG n a b =
 ((0 : Nat) < (1 : Nat) ∧ (¬er (Nt.mk n.du n.da n.ri n.se n.le) = (0 : Int) → ((↑(rl (Nt.mk n.du n.da n.ri n.se n.le)).length : Int) = (0 : Int) → (er (Nt.mk n.du n.da n.ri n.se n.le) = (1 : Int) → (0 : Nat) < (1 : Nat) ∧ (¬okN (Nt.mk n.du n.da n.ri n.se n.le) → rE true ∧ True) ∧ (¬¬okN (Nt.mk n.du n.da n.ri n.se n.le) → false = true ∧ True)) ∧ (¬er (Nt.mk n.du n.da n.ri n.se n.le) = (1 : Int) → false = true ∧ True)) ∧ (¬(↑(rl (Nt.mk n.du n.da n.ri n.se n.le)).length : Int) = (0 : Int) → false = true ∧ True)) ∧ (¬¬er (Nt.mk n.du n.da n.ri n.se n.le) = (0 : Int) → (0 : Nat) < (1 : Nat) ∧ (¬okN (Nt.mk n.du n.da n.ri n.se n.le) → false = true ∧ True) ∧ (¬¬okN (Nt.mk n.du n.da n.ri n.se n.le) → rI (a) ∧ ((2881 : Int) = (0 : Int) → False) ∧ (∃ (z : Nat), z ≤ (rl n).length ∧ b = b ∧ rE (0 : Nat) ∧ rE (0 : Nat) ∧ (rl (Nt.mk n.du n.da n.ri n.se n.le)).length = (rl n).length ∧ (∀ (i : Nat), i <
 (rl n).length → ((rl (Nt.mk n.du n.da n.ri n.se n.le)).getD i (Tw.mk (0 : Int) (0 : Int))).sv.den = ((rl n).getD i (Tw.mk (0 : Int) (0 : Int))).sv.den ∧ True ∧ True ∧ True) ∧ rE (0 : Nat) ∧ rE (0 : Nat) ∧ Fn.func (30 : Nat) = Fn.func (30 : FuncId) ∧ rE (0 : Nat) ∧ rE (0 : Nat) ∧ (rl (Nt.mk n.du n.da n.ri n.se n.le)).length = (rl n).length ∧ (∀ (i : Nat), i < (rl n).length → ((rl (Nt.mk n.du n.da n.ri n.se n.le)).getD i (Tw.mk (0 : Int) (0 : Int))).sv.den = ((rl n).getD i (Tw.mk (0 : Int) (0 : Int))).sv.den ∧ True ∧ True ∧ True) ∧ (↑(rl (Nt.mk n.du n.da n.ri n.se n.le)).length : Int) = (↑(rl n).length : Int) ∧ (0 : Int) = (↑z : Int) ∧ n.1 = n.1 ∧ n.2 = n.2 ∧ n.3 = n.3 ∧ n.4 = n.4 ∧ n.5 = n.5 ∧ rE (a.tmod (2881 : Int)) ∧ True) ∧ ∀ (z : Nat), z ≤ (rl n).length → ((↑z : Int) < (↑(rl n).length : Int) → (0 : Int) ≤ (↑z : Int) ∧ (↑z : Int) < (↑(rl n).length : Int) ∧ (0 : Nat) < (1 : Nat) ∧ (0
 : Nat) < (1 : Nat) ∧ (((rl n).getD (↑z : Int).toNat (Tw.mk (0 : Int) (0 : Int))).2 ≤ ((rl n).getD (↑z : Int).toNat (Tw.mk (0 : Int) (0 : Int))).1 → false = true ∧ True) ∧ (¬((rl n).getD (↑z : Int).toNat (Tw.mk (0 : Int) (0 : Int))).2 ≤ ((rl n).getD (↑z : Int).toNat (Tw.mk (0 : Int) (0 : Int))).1 → ((0 : Int) < (↑z : Int) → (0 : Nat) < (1 : Nat) ∧ rI ((↑z : Int) - (1 : Int)) ∧ (0 : Int) ≤ (↑z : Int) - (1 : Int) ∧ (↑z : Int) - (1 : Int) < (↑(rl n).length : Int) ∧ (((rl n).getD (↑z : Int).toNat (Tw.mk (0 : Int) (0 : Int))).1 ≤ ((rl n).getD ((↑z : Int) - (1 : Int)).toNat (Tw.mk (0 : Int) (0 : Int))).2 → false = true ∧ True) ∧ (¬((rl n).getD (↑z : Int).toNat (Tw.mk (0 : Int) (0 : Int))).1 ≤ ((rl n).getD ((↑z : Int) - (1 : Int)).toNat (Tw.mk (0 : Int) (0 : Int))).2 → rI ((↑z : Int) + (1 : Int)) ∧ ∃ (z_1 : Nat), z_1 ≤ (rl n).length ∧ (rl n).length - z_1 < (rl n).length - z ∧ b = b ∧ rE (0 :
 Nat) ∧ rE (0 : Nat) ∧ rE ((rl n).length) ∧ (∀ (i : Nat), i < (rl n).length → rE (((rl n).getD i (Tw.mk (0 : Int) (0 : Int))).sv.den) ∧ True ∧ True ∧ True) ∧ rE (0 : Nat) ∧ rE (0 : Nat) ∧ rE (Fn.func (30 : FuncId)) ∧ rE (0 : Nat) ∧ rE (0 : Nat) ∧ rE ((rl n).length) ∧ (∀ (i : Nat), i < (rl n).length → rE (((rl n).getD i (Tw.mk (0 : Int) (0 : Int))).sv.den) ∧ True ∧ True ∧ True) ∧ rE (↑(rl n).length : Int) ∧ (↑z : Int) + (1 : Int) = (↑z_1 : Int) ∧ n.1 = n.1 ∧ n.2 = n.2 ∧ n.3 = n.3 ∧ n.4 = n.4 ∧ n.5 = n.5 ∧ rE (a.tmod (2881 : Int)) ∧ True)) ∧ (¬(0 : Int) < (↑z : Int) → rI ((↑z : Int) + (1 : Int)) ∧ ∃ (z_1 : Nat), z_1 ≤ (rl n).length ∧ (rl n).length - z_1 < (rl n).length - z ∧ b = b ∧ rE (0 : Nat) ∧ rE (0 : Nat) ∧ rE ((rl n).length) ∧ (∀ (i : Nat), i < (rl n).length → rE (((rl n).getD i (Tw.mk (0 : Int) (0 : Int))).sv.den) ∧ True ∧ True ∧ True) ∧ rE (0 : Nat) ∧ rE (0 : Nat) ∧ rE (Fn.func (30
 : FuncId)) ∧ rE (0 : Nat) ∧ rE (0 : Nat) ∧ rE ((rl n).length) ∧ (∀ (i : Nat), i < (rl n).length → rE (((rl n).getD i (Tw.mk (0 : Int) (0 : Int))).sv.den) ∧ True ∧ True ∧ True) ∧ rE (↑(rl n).length : Int) ∧ (↑z : Int) + (1 : Int) = (↑z_1 : Int) ∧ n.1 = n.1 ∧ n.2 = n.2 ∧ n.3 = n.3 ∧ n.4 = n.4 ∧ n.5 = n.5 ∧ rE (a.tmod (2881 : Int)) ∧ True))) ∧ (¬(↑z : Int) < (↑(rl n).length : Int) → (0 : Nat) < (1 : Nat) ∧ (0 : Nat) < (1 : Nat) ∧ (0 : Nat) < (1 : Nat) ∧ (0 : Nat) < (1 : Nat) ∧ rI (min n.2 n.4 - max n.1 n.3) ∧ (0 : Nat) < (1 : Nat) ∧ (n.5 ≤ min n.2 n.4 - max n.1 n.3 → (CbP.mk (Nt.mk n.du n.da n.ri n.se n.le) (rl n).length (ftOf fun i => ((rl n).getD i (Tw.mk (0 : Int) (0 : Int))).sv) (a.tmod (2881 : Int))).ok ∧ rE ((rl n).length) ∧ (∀ (i : Nat), i < (rl n).length → ((rl n).getD i (Tw.mk (0 : Int) (0 : Int))).sv.den = (ftOf (fun i => ((rl n).getD i (Tw.mk (0 : Int) (0 : Int))).sv) i).sv.den)
 ∧ rE (0 : Nat) ∧ rE (0 : Nat) ∧ n.1 = n.1 ∧ n.2 = n.2 ∧ n.3 = n.3 ∧ n.4 = n.4 ∧ n.5 = n.5 ∧ rE (a.tmod (2881 : Int)) ∧ (0 : Nat) < (1 : Nat) ∧ (0 : Nat) < (1 : Nat) ∧ (n.1 ≤ a.tmod (2881 : Int) → (0 : Nat) < (1 : Nat) ∧ (0 : Nat) < (1 : Nat) ∧ (a.tmod (2881 : Int) < n.2 → ((1 : Int) ≤ min n.2 n.4 - max n.1 n.3 → (0 : Nat) < (1 : Nat) ∧ (0 : Nat) < (1 : Nat) ∧ (n.3 ≤ a.tmod (2881 : Int) → (0 : Nat) < (1 : Nat) ∧ (0 : Nat) < (1 : Nat) ∧ (0 : Nat) < (1 : Nat) ∧ (0 : Nat) < (1 : Nat) ∧ rI (b) ∧ rI (n.5 + b) ∧ (0 : Nat) < (1 : Nat) ∧ (CbP.mk (Nt.mk n.du n.da n.ri n.se n.le) (rl (Nt.mk n.du n.da n.ri n.se (min (2880 : Int) (n.le + b)))).length (ftOf fun i => ((rl (Nt.mk n.du n.da n.ri n.se (min (2880 : Int) (n.le + b)))).getD i (Tw.mk (0 : Int) (0 : Int))).sv) (a.tmod (2881 : Int))).ok ∧ rE ((rl (Nt.mk n.du n.da n.ri n.se (min (2880 : Int) (n.le + b)))).length) ∧ (∀ (i : Nat), i < (rl (Nt.mk
 n.du n.da n.ri n.se (min (2880 : Int) (n.le + b)))).length → ((rl (Nt.mk n.du n.da n.ri n.se (min (2880 : Int) (n.le + b)))).getD i (Tw.mk (0 : Int) (0 : Int))).sv.den = (ftOf (fun i => ((rl (Nt.mk n.du n.da n.ri n.se (min (2880 : Int) (n.le + b)))).getD i (Tw.mk (0 : Int) (0 : Int))).sv) i).sv.den) ∧ rE (0 : Nat) ∧ rE (0 : Nat) ∧ n.1 = n.1 ∧ n.2 = n.2 ∧ n.3 = n.3 ∧ n.4 = n.4 ∧ n.5 = n.5 ∧ rE (a.tmod (2881 : Int)) ∧ ((inS (ftOf fun i => ((rl n).getD i (Tw.mk (0 : Int) (0 : Int))).sv) (a.tmod (2881 : Int)) (rl n).length ↔ ¬a.tmod (2881 : Int) < n.4) → (er (Nt.mk n.du n.da n.ri n.se (min (2880 : Int) (n.le + b))) = (0 : Int) → (sumJ (lnS (ftOf fun i => ((rl n).getD i (Tw.mk (0 : Int) (0 : Int))).sv)) (rl n).length ≤ sumJ (lnS (ftOf fun i => ((rl (Nt.mk n.du n.da n.ri n.se (min (2880 : Int) (n.le + b)))).getD i (Tw.mk (0 : Int) (0 : Int))).sv)) (rl (Nt.mk n.du n.da n.ri n.se (min (2880 :
 Int) (n.le + b)))).length → rE true ∧ True) ∧ (¬sumJ (lnS (ftOf fun i => ((rl n).getD i (Tw.mk (0 : Int) (0 : Int))).sv)) (rl n).length ≤ sumJ (lnS (ftOf fun i => ((rl (Nt.mk n.du n.da n.ri n.se (min (2880 : Int) (n.le + b)))).getD i (Tw.mk (0 : Int) (0 : Int))).sv)) (rl (Nt.mk n.du n.da n.ri n.se (min (2880 : Int) (n.le + b)))).length → false = true ∧ True)) ∧ (¬er (Nt.mk n.du n.da n.ri n.se (min (2880 : Int) (n.le + b))) = (0 : Int) → false = true ∧ True)) ∧ (¬(inS (ftOf fun i => ((rl n).getD i (Tw.mk (0 : Int) (0 : Int))).sv) (a.tmod (2881 : Int)) (rl n).length ↔ ¬a.tmod (2881 : Int) < n.4) → false = true ∧ True)) ∧ (¬n.3 ≤ a.tmod (2881 : Int) → (0 : Nat) < (1 : Nat) ∧ (0 : Nat) < (1 : Nat) ∧ rI (b) ∧ rI (n.5 + b) ∧ (0 : Nat) < (1 : Nat) ∧ (CbP.mk (Nt.mk n.du n.da n.ri n.se n.le) (rl (Nt.mk n.du n.da n.ri n.se (min (2880 : Int) (n.le + b)))).length (ftOf fun i => ((rl (Nt.mk n.du
 n.da n.ri n.se (min (2880 : Int) (n.le + b)))).getD i (Tw.mk (0 : Int) (0 : Int))).sv) (a.tmod (2881 : Int))).ok ∧ rE ((rl (Nt.mk n.du n.da n.ri n.se (min (2880 : Int) (n.le + b)))).length) ∧ (∀ (i : Nat), i < (rl (Nt.mk n.du n.da n.ri n.se (min (2880 : Int) (n.le + b)))).length → ((rl (Nt.mk n.du n.da n.ri n.se (min (2880 : Int) (n.le + b)))).getD i (Tw.mk (0 : Int) (0 : Int))).sv.den = (ftOf (fun i => ((rl (Nt.mk n.du n.da n.ri n.se (min (2880 : Int) (n.le + b)))).getD i (Tw.mk (0 : Int) (0 : Int))).sv) i).sv.den) ∧ rE (0 : Nat) ∧ rE (0 : Nat) ∧ n.1 = n.1 ∧ n.2 = n.2 ∧ n.3 = n.3 ∧ n.4 = n.4 ∧ n.5 = n.5 ∧ rE (a.tmod (2881 : Int)) ∧ ((inS (ftOf fun i => ((rl n).getD i (Tw.mk (0 : Int) (0 : Int))).sv) (a.tmod (2881 : Int)) (rl n).length ↔ true = true) → (er (Nt.mk n.du n.da n.ri n.se (min (2880 : Int) (n.le + b))) = (0 : Int) → (sumJ (lnS (ftOf fun i => ((rl n).getD i (Tw.mk (0 : Int) (0
 : Int))).sv)) (rl n).length ≤ sumJ (lnS (ftOf fun i => ((rl (Nt.mk n.du n.da n.ri n.se (min (2880 : Int) (n.le + b)))).getD i (Tw.mk (0 : Int) (0 : Int))).sv)) (rl (Nt.mk n.du n.da n.ri n.se (min (2880 : Int) (n.le + b)))).length → rE true ∧ True) ∧ (¬sumJ (lnS (ftOf fun i => ((rl n).getD i (Tw.mk (0 : Int) (0 : Int))).sv)) (rl n).length ≤ sumJ (lnS (ftOf fun i => ((rl (Nt.mk n.du n.da n.ri n.se (min (2880 : Int) (n.le + b)))).getD i (Tw.mk (0 : Int) (0 : Int))).sv)) (rl (Nt.mk n.du n.da n.ri n.se (min (2880 : Int) (n.le + b)))).length → false = true ∧ True)) ∧ (¬er (Nt.mk n.du n.da n.ri n.se (min (2880 : Int) (n.le + b))) = (0 : Int) → false = true ∧ True)) ∧ (¬(inS (ftOf fun i => ((rl n).getD i (Tw.mk (0 : Int) (0 : Int))).sv) (a.tmod (2881 : Int)) (rl n).length ↔ true = true) → false = true ∧ True))) ∧ (¬(1 : Int) ≤ min n.2 n.4 - max n.1 n.3 → (0 : Nat) < (1 : Nat) ∧ (0 : Nat) < (1 :
 Nat) ∧ rI (b) ∧ rI (n.5 + b) ∧ (0 : Nat) < (1 : Nat) ∧ (CbP.mk (Nt.mk n.du n.da n.ri n.se n.le) (rl (Nt.mk n.du n.da n.ri n.se (min (2880 : Int) (n.le + b)))).length (ftOf fun i => ((rl (Nt.mk n.du n.da n.ri n.se (min (2880 : Int) (n.le + b)))).getD i (Tw.mk (0 : Int) (0 : Int))).sv) (a.tmod (2881 : Int))).ok ∧ rE ((rl (Nt.mk n.du n.da n.ri n.se (min (2880 : Int) (n.le + b)))).length) ∧ (∀ (i : Nat), i < (rl (Nt.mk n.du n.da n.ri n.se (min (2880 : Int) (n.le + b)))).length → ((rl (Nt.mk n.du n.da n.ri n.se (min (2880 : Int) (n.le + b)))).getD i (Tw.mk (0 : Int) (0 : Int))).sv.den = (ftOf (fun i => ((rl (Nt.mk n.du n.da n.ri n.se (min (2880 : Int) (n.le + b)))).getD i (Tw.mk (0 : Int) (0 : Int))).sv) i).sv.den) ∧ rE (0 : Nat) ∧ rE (0 : Nat) ∧ n.1 = n.1 ∧ n.2 = n.2 ∧ n.3 = n.3 ∧ n.4 = n.4 ∧ n.5 = n.5 ∧ rE (a.tmod (2881 : Int)) ∧ ((inS (ftOf fun i => ((rl n).getD i (Tw.mk (0 : Int) (0 :
 Int))).sv) (a.tmod (2881 : Int)) (rl n).length ↔ true = true) → (er (Nt.mk n.du n.da n.ri n.se (min (2880 : Int) (n.le + b))) = (0 : Int) → (sumJ (lnS (ftOf fun i => ((rl n).getD i (Tw.mk (0 : Int) (0 : Int))).sv)) (rl n).length ≤ sumJ (lnS (ftOf fun i => ((rl (Nt.mk n.du n.da n.ri n.se (min (2880 : Int) (n.le + b)))).getD i (Tw.mk (0 : Int) (0 : Int))).sv)) (rl (Nt.mk n.du n.da n.ri n.se (min (2880 : Int) (n.le + b)))).length → rE true ∧ True) ∧ (¬sumJ (lnS (ftOf fun i => ((rl n).getD i (Tw.mk (0 : Int) (0 : Int))).sv)) (rl n).length ≤ sumJ (lnS (ftOf fun i => ((rl (Nt.mk n.du n.da n.ri n.se (min (2880 : Int) (n.le + b)))).getD i (Tw.mk (0 : Int) (0 : Int))).sv)) (rl (Nt.mk n.du n.da n.ri n.se (min (2880 : Int) (n.le + b)))).length → false = true ∧ True)) ∧ (¬er (Nt.mk n.du n.da n.ri n.se (min (2880 : Int) (n.le + b))) = (0 : Int) → false = true ∧ True)) ∧ (¬(inS (ftOf fun i => ((rl
 n).getD i (Tw.mk (0 : Int) (0 : Int))).sv) (a.tmod (2881 : Int)) (rl n).length ↔ true = true) → false = true ∧ True))) ∧ (¬a.tmod (2881 : Int) < n.2 → (0 : Nat) < (1 : Nat) ∧ (0 : Nat) < (1 : Nat) ∧ rI (b) ∧ rI (n.5 + b) ∧ (0 : Nat) < (1 : Nat) ∧ (CbP.mk (Nt.mk n.du n.da n.ri n.se n.le) (rl (Nt.mk n.du n.da n.ri n.se (min (2880 : Int) (n.le + b)))).length (ftOf fun i => ((rl (Nt.mk n.du n.da n.ri n.se (min (2880 : Int) (n.le + b)))).getD i (Tw.mk (0 : Int) (0 : Int))).sv) (a.tmod (2881 : Int))).ok ∧ rE ((rl (Nt.mk n.du n.da n.ri n.se (min (2880 : Int) (n.le + b)))).length) ∧ (∀ (i : Nat), i < (rl (Nt.mk n.du n.da n.ri n.se (min (2880 : Int) (n.le + b)))).length → ((rl (Nt.mk n.du n.da n.ri n.se (min (2880 : Int) (n.le + b)))).getD i (Tw.mk (0 : Int) (0 : Int))).sv.den = (ftOf (fun i => ((rl (Nt.mk n.du n.da n.ri n.se (min (2880 : Int) (n.le + b)))).getD i (Tw.mk (0 : Int) (0 :
 Int))).sv) i).sv.den) ∧ rE (0 : Nat) ∧ rE (0 : Nat) ∧ n.1 = n.1 ∧ n.2 = n.2 ∧ n.3 = n.3 ∧ n.4 = n.4 ∧ n.5 = n.5 ∧ rE (a.tmod (2881 : Int)) ∧ ((inS (ftOf fun i => ((rl n).getD i (Tw.mk (0 : Int) (0 : Int))).sv) (a.tmod (2881 : Int)) (rl n).length ↔ false = true) → (er (Nt.mk n.du n.da n.ri n.se (min (2880 : Int) (n.le + b))) = (0 : Int) → (sumJ (lnS (ftOf fun i => ((rl n).getD i (Tw.mk (0 : Int) (0 : Int))).sv)) (rl n).length ≤ sumJ (lnS (ftOf fun i => ((rl (Nt.mk n.du n.da n.ri n.se (min (2880 : Int) (n.le + b)))).getD i (Tw.mk (0 : Int) (0 : Int))).sv)) (rl (Nt.mk n.du n.da n.ri n.se (min (2880 : Int) (n.le + b)))).length → rE true ∧ True) ∧ (¬sumJ (lnS (ftOf fun i => ((rl n).getD i (Tw.mk (0 : Int) (0 : Int))).sv)) (rl n).length ≤ sumJ (lnS (ftOf fun i => ((rl (Nt.mk n.du n.da n.ri n.se (min (2880 : Int) (n.le + b)))).getD i (Tw.mk (0 : Int) (0 : Int))).sv)) (rl (Nt.mk n.du n.da n.ri
 n.se (min (2880 : Int) (n.le + b)))).length → false = true ∧ True)) ∧ (¬er (Nt.mk n.du n.da n.ri n.se (min (2880 : Int) (n.le + b))) = (0 : Int) → false = true ∧ True)) ∧ (¬(inS (ftOf fun i => ((rl n).getD i (Tw.mk (0 : Int) (0 : Int))).sv) (a.tmod (2881 : Int)) (rl n).length ↔ false = true) → false = true ∧ True))) ∧ (¬n.1 ≤ a.tmod (2881 : Int) → (0 : Nat) < (1 : Nat) ∧ (0 : Nat) < (1 : Nat) ∧ rI (b) ∧ rI (n.5 + b) ∧ (0 : Nat) < (1 : Nat) ∧ (CbP.mk (Nt.mk n.du n.da n.ri n.se n.le) (rl (Nt.mk n.du n.da n.ri n.se (min (2880 : Int) (n.le + b)))).length (ftOf fun i => ((rl (Nt.mk n.du n.da n.ri n.se (min (2880 : Int) (n.le + b)))).getD i (Tw.mk (0 : Int) (0 : Int))).sv) (a.tmod (2881 : Int))).ok ∧ rE ((rl (Nt.mk n.du n.da n.ri n.se (min (2880 : Int) (n.le + b)))).length) ∧ (∀ (i : Nat), i < (rl (Nt.mk n.du n.da n.ri n.se (min (2880 : Int) (n.le + b)))).length → ((rl (Nt.mk n.du n.da n.ri
 n.se (min (2880 : Int) (n.le + b)))).getD i (Tw.mk (0 : Int) (0 : Int))).sv.den = (ftOf (fun i => ((rl (Nt.mk n.du n.da n.ri n.se (min (2880 : Int) (n.le + b)))).getD i (Tw.mk (0 : Int) (0 : Int))).sv) i).sv.den) ∧ rE (0 : Nat) ∧ rE (0 : Nat) ∧ n.1 = n.1 ∧ n.2 = n.2 ∧ n.3 = n.3 ∧ n.4 = n.4 ∧ n.5 = n.5 ∧ rE (a.tmod (2881 : Int)) ∧ ((inS (ftOf fun i => ((rl n).getD i (Tw.mk (0 : Int) (0 : Int))).sv) (a.tmod (2881 : Int)) (rl n).length ↔ false = true) → (er (Nt.mk n.du n.da n.ri n.se (min (2880 : Int) (n.le + b))) = (0 : Int) → (sumJ (lnS (ftOf fun i => ((rl n).getD i (Tw.mk (0 : Int) (0 : Int))).sv)) (rl n).length ≤ sumJ (lnS (ftOf fun i => ((rl (Nt.mk n.du n.da n.ri n.se (min (2880 : Int) (n.le + b)))).getD i (Tw.mk (0 : Int) (0 : Int))).sv)) (rl (Nt.mk n.du n.da n.ri n.se (min (2880 : Int) (n.le + b)))).length → rE true ∧ True) ∧ (¬sumJ (lnS (ftOf fun i => ((rl n).getD i (Tw.mk (0 :
 Int) (0 : Int))).sv)) (rl n).length ≤ sumJ (lnS (ftOf fun i => ((rl (Nt.mk n.du n.da n.ri n.se (min (2880 : Int) (n.le + b)))).getD i (Tw.mk (0 : Int) (0 : Int))).sv)) (rl (Nt.mk n.du n.da n.ri n.se (min (2880 : Int) (n.le + b)))).length → false = true ∧ True)) ∧ (¬er (Nt.mk n.du n.da n.ri n.se (min (2880 : Int) (n.le + b))) = (0 : Int) → false = true ∧ True)) ∧ (¬(inS (ftOf fun i => ((rl n).getD i (Tw.mk (0 : Int) (0 : Int))).sv) (a.tmod (2881 : Int)) (rl n).length ↔ false = true) → false = true ∧ True))) ∧ (¬n.5 ≤ min n.2 n.4 - max n.1 n.3 → (CbP.mk (Nt.mk n.du n.da n.ri n.se n.le) (rl n).length (ftOf fun i => ((rl n).getD i (Tw.mk (0 : Int) (0 : Int))).sv) (a.tmod (2881 : Int))).ok ∧ rE ((rl n).length) ∧ (∀ (i : Nat), i < (rl n).length → ((rl n).getD i (Tw.mk (0 : Int) (0 : Int))).sv.den = (ftOf (fun i => ((rl n).getD i (Tw.mk (0 : Int) (0 : Int))).sv) i).sv.den) ∧ rE (0 : Nat) ∧ rE
 (0 : Nat) ∧ n.1 = n.1 ∧ n.2 = n.2 ∧ n.3 = n.3 ∧ n.4 = n.4 ∧ n.5 = n.5 ∧ rE (a.tmod (2881 : Int)) ∧ (0 : Nat) < (1 : Nat) ∧ (0 : Nat) < (1 : Nat) ∧ (n.1 ≤ a.tmod (2881 : Int) → (0 : Nat) < (1 : Nat) ∧ (0 : Nat) < (1 : Nat) ∧ (a.tmod (2881 : Int) < n.2 → (0 : Nat) < (1 : Nat) ∧ (0 : Nat) < (1 : Nat) ∧ rI (b) ∧ rI (n.5 + b) ∧ (0 : Nat) < (1 : Nat) ∧ (CbP.mk (Nt.mk n.du n.da n.ri n.se n.le) (rl (Nt.mk n.du n.da n.ri n.se (min (2880 : Int) (n.le + b)))).length (ftOf fun i => ((rl (Nt.mk n.du n.da n.ri n.se (min (2880 : Int) (n.le + b)))).getD i (Tw.mk (0 : Int) (0 : Int))).sv) (a.tmod (2881 : Int))).ok ∧ rE ((rl (Nt.mk n.du n.da n.ri n.se (min (2880 : Int) (n.le + b)))).length) ∧ (∀ (i : Nat), i < (rl (Nt.mk n.du n.da n.ri n.se (min (2880 : Int) (n.le + b)))).length → ((rl (Nt.mk n.du n.da n.ri n.se (min (2880 : Int) (n.le + b)))).getD i (Tw.mk (0 : Int) (0 : Int))).sv.den = (ftOf (fun i =>
 ((rl (Nt.mk n.du n.da n.ri n.se (min (2880 : Int) (n.le + b)))).getD i (Tw.mk (0 : Int) (0 : Int))).sv) i).sv.den) ∧ rE (0 : Nat) ∧ rE (0 : Nat) ∧ n.1 = n.1 ∧ n.2 = n.2 ∧ n.3 = n.3 ∧ n.4 = n.4 ∧ n.5 = n.5 ∧ rE (a.tmod (2881 : Int)) ∧ ((inS (ftOf fun i => ((rl n).getD i (Tw.mk (0 : Int) (0 : Int))).sv) (a.tmod (2881 : Int)) (rl n).length ↔ true = true) → (er (Nt.mk n.du n.da n.ri n.se (min (2880 : Int) (n.le + b))) = (0 : Int) → (sumJ (lnS (ftOf fun i => ((rl n).getD i (Tw.mk (0 : Int) (0 : Int))).sv)) (rl n).length ≤ sumJ (lnS (ftOf fun i => ((rl (Nt.mk n.du n.da n.ri n.se (min (2880 : Int) (n.le + b)))).getD i (Tw.mk (0 : Int) (0 : Int))).sv)) (rl (Nt.mk n.du n.da n.ri n.se (min (2880 : Int) (n.le + b)))).length → rE true ∧ True) ∧ (¬sumJ (lnS (ftOf fun i => ((rl n).getD i (Tw.mk (0 : Int) (0 : Int))).sv)) (rl n).length ≤ sumJ (lnS (ftOf fun i => ((rl (Nt.mk n.du n.da n.ri n.se (min
 (2880 : Int) (n.le + b)))).getD i (Tw.mk (0 : Int) (0 : Int))).sv)) (rl (Nt.mk n.du n.da n.ri n.se (min (2880 : Int) (n.le + b)))).length → false = true ∧ True)) ∧ (¬er (Nt.mk n.du n.da n.ri n.se (min (2880 : Int) (n.le + b))) = (0 : Int) → false = true ∧ True)) ∧ (¬(inS (ftOf fun i => ((rl n).getD i (Tw.mk (0 : Int) (0 : Int))).sv) (a.tmod (2881 : Int)) (rl n).length ↔ true = true) → false = true ∧ True)) ∧ (¬a.tmod (2881 : Int) < n.2 → (0 : Nat) < (1 : Nat) ∧ (0 : Nat) < (1 : Nat) ∧ rI (b) ∧ rI (n.5 + b) ∧ (0 : Nat) < (1 : Nat) ∧ (CbP.mk (Nt.mk n.du n.da n.ri n.se n.le) (rl (Nt.mk n.du n.da n.ri n.se (min (2880 : Int) (n.le + b)))).length (ftOf fun i => ((rl (Nt.mk n.du n.da n.ri n.se (min (2880 : Int) (n.le + b)))).getD i (Tw.mk (0 : Int) (0 : Int))).sv) (a.tmod (2881 : Int))).ok ∧ rE ((rl (Nt.mk n.du n.da n.ri n.se (min (2880 : Int) (n.le + b)))).length) ∧ (∀ (i : Nat), i < (rl
 (Nt.mk n.du n.da n.ri n.se (min (2880 : Int) (n.le + b)))).length → ((rl (Nt.mk n.du n.da n.ri n.se (min (2880 : Int) (n.le + b)))).getD i (Tw.mk (0 : Int) (0 : Int))).sv.den = (ftOf (fun i => ((rl (Nt.mk n.du n.da n.ri n.se (min (2880 : Int) (n.le + b)))).getD i (Tw.mk (0 : Int) (0 : Int))).sv) i).sv.den) ∧ rE (0 : Nat) ∧ rE (0 : Nat) ∧ n.1 = n.1 ∧ n.2 = n.2 ∧ n.3 = n.3 ∧ n.4 = n.4 ∧ n.5 = n.5 ∧ rE (a.tmod (2881 : Int)) ∧ ((inS (ftOf fun i => ((rl n).getD i (Tw.mk (0 : Int) (0 : Int))).sv) (a.tmod (2881 : Int)) (rl n).length ↔ false = true) → (er (Nt.mk n.du n.da n.ri n.se (min (2880 : Int) (n.le + b))) = (0 : Int) → (sumJ (lnS (ftOf fun i => ((rl n).getD i (Tw.mk (0 : Int) (0 : Int))).sv)) (rl n).length ≤ sumJ (lnS (ftOf fun i => ((rl (Nt.mk n.du n.da n.ri n.se (min (2880 : Int) (n.le + b)))).getD i (Tw.mk (0 : Int) (0 : Int))).sv)) (rl (Nt.mk n.du n.da n.ri n.se (min (2880 : Int)
 (n.le + b)))).length → rE true ∧ True) ∧ (¬sumJ (lnS (ftOf fun i => ((rl n).getD i (Tw.mk (0 : Int) (0 : Int))).sv)) (rl n).length ≤ sumJ (lnS (ftOf fun i => ((rl (Nt.mk n.du n.da n.ri n.se (min (2880 : Int) (n.le + b)))).getD i (Tw.mk (0 : Int) (0 : Int))).sv)) (rl (Nt.mk n.du n.da n.ri n.se (min (2880 : Int) (n.le + b)))).length → false = true ∧ True)) ∧ (¬er (Nt.mk n.du n.da n.ri n.se (min (2880 : Int) (n.le + b))) = (0 : Int) → false = true ∧ True)) ∧ (¬(inS (ftOf fun i => ((rl n).getD i (Tw.mk (0 : Int) (0 : Int))).sv) (a.tmod (2881 : Int)) (rl n).length ↔ false = true) → false = true ∧ True))) ∧ (¬n.1 ≤ a.tmod (2881 : Int) → (0 : Nat) < (1 : Nat) ∧ (0 : Nat) < (1 : Nat) ∧ rI (b) ∧ rI (n.5 + b) ∧ (0 : Nat) < (1 : Nat) ∧ (CbP.mk (Nt.mk n.du n.da n.ri n.se n.le) (rl (Nt.mk n.du n.da n.ri n.se (min (2880 : Int) (n.le + b)))).length (ftOf fun i => ((rl (Nt.mk n.du n.da n.ri n.se (min
 (2880 : Int) (n.le + b)))).getD i (Tw.mk (0 : Int) (0 : Int))).sv) (a.tmod (2881 : Int))).ok ∧ rE ((rl (Nt.mk n.du n.da n.ri n.se (min (2880 : Int) (n.le + b)))).length) ∧ (∀ (i : Nat), i < (rl (Nt.mk n.du n.da n.ri n.se (min (2880 : Int) (n.le + b)))).length → ((rl (Nt.mk n.du n.da n.ri n.se (min (2880 : Int) (n.le + b)))).getD i (Tw.mk (0 : Int) (0 : Int))).sv.den = (ftOf (fun i => ((rl (Nt.mk n.du n.da n.ri n.se (min (2880 : Int) (n.le + b)))).getD i (Tw.mk (0 : Int) (0 : Int))).sv) i).sv.den) ∧ rE (0 : Nat) ∧ rE (0 : Nat) ∧ n.1 = n.1 ∧ n.2 = n.2 ∧ n.3 = n.3 ∧ n.4 = n.4 ∧ n.5 = n.5 ∧ rE (a.tmod (2881 : Int)) ∧ ((inS (ftOf fun i => ((rl n).getD i (Tw.mk (0 : Int) (0 : Int))).sv) (a.tmod (2881 : Int)) (rl n).length ↔ false = true) → (er (Nt.mk n.du n.da n.ri n.se (min (2880 : Int) (n.le + b))) = (0 : Int) → (sumJ (lnS (ftOf fun i => ((rl n).getD i (Tw.mk (0 : Int) (0 : Int))).sv)) (rl
 n).length ≤ sumJ (lnS (ftOf fun i => ((rl (Nt.mk n.du n.da n.ri n.se (min (2880 : Int) (n.le + b)))).getD i (Tw.mk (0 : Int) (0 : Int))).sv)) (rl (Nt.mk n.du n.da n.ri n.se (min (2880 : Int) (n.le + b)))).length → rE true ∧ True) ∧ (¬sumJ (lnS (ftOf fun i => ((rl n).getD i (Tw.mk (0 : Int) (0 : Int))).sv)) (rl n).length ≤ sumJ (lnS (ftOf fun i => ((rl (Nt.mk n.du n.da n.ri n.se (min (2880 : Int) (n.le + b)))).getD i (Tw.mk (0 : Int) (0 : Int))).sv)) (rl (Nt.mk n.du n.da n.ri n.se (min (2880 : Int) (n.le + b)))).length → false = true ∧ True)) ∧ (¬er (Nt.mk n.du n.da n.ri n.se (min (2880 : Int) (n.le + b))) = (0 : Int) → false = true ∧ True)) ∧ (¬(inS (ftOf fun i => ((rl n).getD i (Tw.mk (0 : Int) (0 : Int))).sv) (a.tmod (2881 : Int)) (rl n).length ↔ false = true) → false = true ∧ True))))))) := by kernel_rfl
end Go.Proofs.Ytaoegpjlpiminaa

set_option maxRecDepth 100000
namespace Go.Proofs.Ytaoegpjlpiminaa
open Go Go.Lg
attribute [local irreducible] funS bodyH
theorem inS_0 {f : Nat → Tw} {m : Int} : inS f m 0 ↔ False := ⟨fun ⟨i, h, _⟩ => by omega, False.elim⟩
theorem inS_s {f : Nat → Tw} {m : Int} {k : Nat} : inS f m (k + 1) ↔ inS f m k ∨ (f k).lo ≤ m ∧ m < (f k).hi := by
  constructor
  · rintro ⟨i, h, h1⟩
    by_cases e : i < k
    · exact .inl ⟨i, e, h1⟩
    · have : i = k := by omega
      subst this; exact .inr h1
  · rintro (⟨i, h, h1⟩ | h)
    · exact ⟨i, by omega, h1⟩
    · exact ⟨k, by omega, h⟩
theorem sum_bd {g : Nat → Int} {B : Int} : ∀ {m : Nat}, (∀ j, j < m → -B ≤ g j ∧ g j ≤ B) → -(m * B) ≤ sumJ g m ∧ sumJ g m ≤ m * B
  | 0, _ => by simp [sumJ]
  | m + 1, h => by
    have h1 := sum_bd (g := g) (B := B) (m := m) fun j hj => h j (by omega)
    have h2 := h m (by omega)
    have : ((m + 1 : Nat) : Int) * B = m * B + B := by push_cast; rw [Int.add_mul, Int.one_mul]
    rw [this]
    show -(m * B + B) ≤ sumJ g m + g m ∧ sumJ g m + g m ≤ _
    omega
theorem cb_true {p : CbP} (h : p.ok) : cbG p := by
  rw [cbG_vc]
  have hc := h.c
  simp only [rI, rE, tt3, tt4, tt5, and_true, true_and, Nat.zero_lt_one, and_self, implies_true, Int.toNat_natCast, Nat.zero_add, Nat.add_zero, Classical.not_not, iff_self, Bool.false_eq_true, false_iff, true_iff]
  refine ⟨⟨0, by omega, by rw [inS_0]; exact id, rfl, rfl⟩, fun z hz => ⟨fun hl => ?_, fun hl => ?_⟩⟩
  · have hb := h.b z (by omega)
    have hs := sum_bd (g := lnS p.f) (B := 2880) (m := z) fun j hj => by
      have := h.b j (by omega)
      unfold tm at this
      unfold lnS; omega
    unfold tm at hb
    have e : sumJ (lnS p.f) (z + 1) = sumJ (lnS p.f) z + ((p.f z).hi - (p.f z).lo) := rfl
    refine ⟨by omega, hl, fun h1 => ⟨by omega, by omega, by omega, z + 1, by omega, by omega, inS_s.2 (.inl h1), e.symm, by omega⟩, fun h1 => ⟨fun h2 => ⟨by omega, by omega, by omega, z + 1, by omega, by omega, ?_, e.symm, by omega⟩, fun h2 => ⟨by omega, by omega, by omega, z + 1, by omega, by omega, ?_, e.symm, by omega⟩⟩⟩
    · rw [inS_s]; exact ⟨fun h => .inr ⟨h2, h⟩, fun h => h.elim (fun h => absurd h h1) (fun h => h.2)⟩
    · rw [inS_s]; exact fun h => h.elim h1 (fun h => h2 h.1)
  · have : z = p.c := by omega
    subst this; exact ⟨Iff.rfl, rfl⟩
theorem cb_ok : cbC.Ok Try.prog := by
  refine ⟨by kernel_rfl, fun p hp => ?_⟩
  exact stH_ok nilS_cs nilS_x nilS_ic mixed (cb_true hp)
def brt (n : Nt) : Int := (gM n).hi - (gM n).lo
structure BlOK (n : Nt) (l : List Tw) : Prop where
  len : l.length ≤ 2
  b : ∀ i, i < l.length → tm (l.getD i ⟨0, 0⟩).lo ∧ tm (l.getD i ⟨0, 0⟩).hi ∧ (l.getD i ⟨0, 0⟩).lo < (l.getD i ⟨0, 0⟩).hi
  r : 1 < l.length → (l.getD 0 ⟨0, 0⟩).hi < (l.getD 1 ⟨0, 0⟩).lo
  i : ∀ m, inS (fun i => l.getD i ⟨0, 0⟩) m l.length ↔ n.du ≤ m ∧ m < n.da ∧ ¬(n.le ≤ brt n ∧ 1 ≤ brt n ∧ n.ri ≤ m ∧ m < n.se)
  s1 : brt n < max n.le 1 → sumJ (lnS fun i => l.getD i ⟨0, 0⟩) l.length = n.da - n.du
  s2 : ¬ brt n < max n.le 1 → sumJ (lnS fun i => l.getD i ⟨0, 0⟩) l.length = n.da - n.du - brt n
theorem flt1 (g : Nat → Tw) : flt g 1 = [] ∧ ¬ (g 0).lo < (g 0).hi ∨ flt g 1 = [g 0] ∧ (g 0).lo < (g 0).hi := by
  by_cases h : (g 0).lo < (g 0).hi
  · right; rw [flt_yes h]; exact ⟨by simp [flt], h⟩
  · left; rw [flt_no h]; exact ⟨by simp [flt], h⟩
theorem flt2 (g : Nat → Tw) : flt g 2 = flt g 1 ∧ ¬ (g 1).lo < (g 1).hi ∨ flt g 2 = flt g 1 ++ [g 1] ∧ (g 1).lo < (g 1).hi := by
  by_cases h : (g 1).lo < (g 1).hi
  · right; rw [flt_yes h]; exact ⟨rfl, h⟩
  · left; rw [flt_no h]; exact ⟨rfl, h⟩
theorem bl_ok {n : Nt} (h : okN n) : BlOK n (bl n) := by
  have hm := gm_bd h
  have h1 := h.du
  have h2 := h.da
  have h3 := h.ri
  have h4 := h.se
  have h5 := h.le
  have h6 := h.d
  have h7 := h.m
  have g1 : (gM n).lo = max n.du n.ri := rfl
  have g2 : (gM n).hi = min n.da n.se := rfl
  have g3 : brt n = min n.da n.se - max n.du n.ri := rfl
  unfold tm at *
  by_cases hs : (gM n).hi - (gM n).lo < max n.le 1
  · rw [bl_short hs]
    rcases flt1 (c1 n) with ⟨e, e1⟩ | ⟨e, e1⟩
    · rw [e]
      simp only [c1] at e1
      refine ⟨by simp, fun i hi => by simp at hi, fun h => by simp at h, fun m => ?_, fun _ => ?_, fun h => ?_⟩
      · simp only [List.length_nil, inS_0]; exact ⟨False.elim, fun ⟨a1, a2, a3⟩ => by omega⟩
      · simp only [List.length_nil, sumJ]; omega
      · rw [g3] at h; rw [g1, g2] at hs; omega
    · rw [e]
      simp only [c1] at e1
      refine ⟨by simp, fun i hi => ?_, fun h => by simp at h, fun m => ?_, fun _ => ?_, fun h => ?_⟩
      · have : i = 0 := by simpa using hi
        subst this
        simp only [tm, c1, List.getD_cons_zero]; omega
      · simp only [List.length_singleton, inS_s, inS_0, List.getD_cons_zero, c1, false_or]
        rw [g1, g2] at hs; rw [g3]; exact ⟨fun h => ⟨h.1, h.2, fun h2 => by omega⟩, fun h => ⟨h.1, h.2.1⟩⟩
      · simp only [List.length_singleton, sumJ, lnS, List.getD_cons_zero, c1]; omega
      · rw [g3] at h; rw [g1, g2] at hs; omega
  · rw [bl_long hs]
    rw [g1, g2] at hs
    have k0 : c2 n 0 = ⟨n.du, (gM n).lo⟩ := rfl
    have k1 : c2 n 1 = ⟨(gM n).hi, n.da⟩ := rfl
    rcases flt2 (c2 n) with ⟨e, e1⟩ | ⟨e, e1⟩ <;> rcases flt1 (c2 n) with ⟨f, f1⟩ | ⟨f, f1⟩ <;> rw [e, f] <;> rw [k1] at e1 <;> rw [k0] at f1 <;> simp only [g1, g2] at e1 f1
    · refine ⟨by simp, fun i hi => by simp at hi, fun h => by simp at h, fun m => ?_, fun h => ?_, fun h => ?_⟩
      · simp only [List.length_nil, inS_0, g3]; exact ⟨False.elim, fun ⟨a1, a2, a3⟩ => a3 ⟨by omega, by omega, by omega, by omega⟩⟩
      · rw [g3] at h; omega
      · simp only [List.length_nil, sumJ, g3]; omega
    · refine ⟨by simp, fun i hi => ?_, fun h => by simp at h, fun m => ?_, fun h => ?_, fun h => ?_⟩
      · have : i = 0 := by simpa using hi
        subst this
        simp only [tm, k0, g1, List.getD_cons_zero]; omega
      · simp only [List.length_singleton, inS_s, inS_0, List.getD_cons_zero, k0, g1, g3, false_or]; exact ⟨fun h => ⟨by omega, by omega, fun h2 => by omega⟩, fun ⟨a1, a2, a3⟩ => ⟨a1, Classical.byContradiction fun hn => a3 ⟨by omega, by omega, by omega, by omega⟩⟩⟩
      · rw [g3] at h; omega
      · simp only [List.length_singleton, sumJ, lnS, List.getD_cons_zero, k0, g1, g3]; omega
    · refine ⟨by simp, fun i hi => ?_, fun h => by simp at h, fun m => ?_, fun h => ?_, fun h => ?_⟩
      · have : i = 0 := by simpa using hi
        subst this
        simp only [tm, k1, g2, List.getD_cons_zero, List.nil_append]; omega
      · simp only [List.nil_append, List.length_singleton, inS_s, inS_0, List.getD_cons_zero, k1, g2, g3, false_or]; exact ⟨fun h => ⟨by omega, by omega, fun h2 => by omega⟩, fun ⟨a1, a2, a3⟩ => ⟨Classical.byContradiction fun hn => a3 ⟨by omega, by omega, by omega, by omega⟩, a2⟩⟩
      · rw [g3] at h; omega
      · simp only [List.nil_append, List.length_singleton, sumJ, lnS, List.getD_cons_zero, k1, g2, g3]; omega
    · have e2 : ([c2 n 0] ++ [c2 n 1] : List Tw).length = 2 := rfl
      have e3 : ([c2 n 0] ++ [c2 n 1] : List Tw).getD 0 ⟨0, 0⟩ = ⟨n.du, max n.du n.ri⟩ := rfl
      have e4 : ([c2 n 0] ++ [c2 n 1] : List Tw).getD 1 ⟨0, 0⟩ = ⟨min n.da n.se, n.da⟩ := rfl
      refine ⟨by rw [e2]; omega, fun i hi => ?_, fun h => ?_, fun m => ?_, fun h => ?_, fun h => ?_⟩
      · rw [e2] at hi
        match i, hi with
        | 0, _ => rw [e3]; unfold tm; dsimp only; omega
        | 1, _ => rw [e4]; unfold tm; dsimp only; omega
      · rw [e3, e4]; dsimp only; omega
      · rw [e2, inS_s, inS_s, inS_0, e3, e4, g3, false_or]
        dsimp only
        refine ⟨fun h => ?_, fun ⟨a1, a2, a3⟩ => ?_⟩
        · rcases h with ⟨k1, k2⟩ | ⟨k1, k2⟩
          · exact ⟨by omega, by omega, fun h2 => by omega⟩
          · exact ⟨by omega, by omega, fun h2 => by omega⟩
        · by_cases k : m < max n.du n.ri
          · exact .inl ⟨a1, k⟩
          · refine .inr ⟨Classical.byContradiction fun hn => a3 ⟨by omega, by omega, by omega, by omega⟩, a2⟩
      · rw [g3] at h; omega
      · rw [e2]; simp only [sumJ, lnS]; rw [e3, e4, g3]; dsimp only; omega
end Go.Proofs.Ytaoegpjlpiminaa

set_option maxRecDepth 100000
namespace Go.Proofs.Ytaoegpjlpiminaa
open Go Go.Lg
attribute [local irreducible] funS bodyH
theorem aw_ok : awC.Ok Try.prog := by
  refine ⟨by kernel_rfl, fun x k hk => ?_⟩
  simp only [awC] at hk
  split at hk
  · exact ⟨.bool true, Does.plain (res := .bool true) Zb_does trivial, hk⟩
  · exact hk.elim
theorem csB_sound : SoundS Try.prog csB := ctrsQ_sound (ctrsF_sound (ctrs_sound (by
  intro x hx
  simp at hx
  rcases hx with rfl | rfl
  · exact rng_ok
  · exact aw_ok)) (by intro y hy; simp at hy; subst hy; exact br_ok)) (by intro y hy; simp at hy; subst hy; exact cb_ok)
theorem rl_yes {n : Nt} (h : okN n) : rl n = bl n ∧ er n = 0 := ⟨if_pos h, if_pos h⟩
theorem rl_no {n : Nt} (h : ¬ okN n) : rl n = [] ∧ er n = 1 := ⟨if_neg h, if_neg h⟩
theorem ft_eq (l : List Tw) : (ftOf fun i => (l.getD i ⟨0, 0⟩).sv) = fun i => l.getD i ⟨0, 0⟩ := rfl
theorem lng_ok {n : Nt} (h : okN n) {b : Int} (hb : 0 ≤ b) : okN ⟨n.du, n.da, n.ri, n.se, min 2880 (n.le + b)⟩ := by
  have := h.le
  unfold tm at this
  exact ⟨h.du, h.da, h.ri, h.se, by unfold tm; dsimp only; omega, h.d, h.m⟩
theorem fin_iff {I : Prop} {X S : Prop} {e : Int} (h1 : I ↔ X) (h2 : S) (h3 : e = 0) : ((I ↔ X) → (e = 0 → S) ∧ e = 0) ∧ (I ↔ X) := ⟨fun _ => ⟨fun _ => h2, h3⟩, h1⟩
theorem lb_true {n : Nt} {a b : Int} (ha : 0 ≤ a ∧ a ≤ 65535) (hb : 0 ≤ b ∧ b ≤ 255) : lbG n a b := by
  rw [lbG_vc]
  have e0 : Nt.mk n.du n.da n.ri n.se n.le = n := rfl
  simp only [rI, rE, tt3, tt4, tt5, tt13, tt14, and_true, true_and, Nat.zero_lt_one, and_self, implies_true, Int.toNat_natCast, Nat.zero_add, Nat.add_zero, Classical.not_not, iff_self, Bool.false_eq_true, imp_false, and_imp, true_implies, forall_const, e0, ft_eq]
  refine ⟨fun he => ?_, fun he => ?_⟩
  · have hn : ¬ okN n := fun h => he (rl_yes h).2
    obtain ⟨e1, e2⟩ := rl_no hn
    rw [e1, e2]
    exact ⟨fun _ => ⟨fun _ => hn, rfl⟩, rfl⟩
  · have hn : okN n := Classical.byContradiction fun h => by rw [(rl_no h).2] at he; omega
    obtain ⟨e1, e2⟩ := rl_yes hn
    have hL := lng_ok hn hb.1
    obtain ⟨e3, e4⟩ := rl_yes hL
    rw [e1, e3, e4]
    have B := bl_ok hn
    have B' := bl_ok hL
    have h1 := hn.du
    have h2 := hn.da
    have h3 := hn.ri
    have h4 := hn.se
    have h5 := hn.le
    have g3 : brt n = min n.da n.se - max n.du n.ri := rfl
    have g4 : brt ⟨n.du, n.da, n.ri, n.se, min 2880 (n.le + b)⟩ = brt n := rfl
    have hi := B.i (a.tmod 2881)
    have hsum : sumJ (lnS fun i => (bl n).getD i ⟨0, 0⟩) (bl n).length ≤ sumJ (lnS fun i => (bl ⟨n.du, n.da, n.ri, n.se, min 2880 (n.le + b)⟩).getD i ⟨0, 0⟩) (bl ⟨n.du, n.da, n.ri, n.se, min 2880 (n.le + b)⟩).length := by
      unfold tm at h5
      by_cases k1 : brt n < max n.le 1
      · rw [B.s1 k1, B'.s1 (by rw [g4]; dsimp only; omega)]; exact Int.le_refl _
      · rw [B.s2 k1]
        by_cases k2 : brt n < max (min 2880 (n.le + b)) 1
        · rw [B'.s1 (by rw [g4]; exact k2)]; dsimp only; omega
        · rw [B'.s2 (by rw [g4]; exact k2), g4]; dsimp only; omega
    have ok1 : (CbP.mk n (bl n).length (fun i => (bl n).getD i ⟨0, 0⟩) (a.tmod 2881)).ok := ⟨B.len, fun i hi => ⟨(B.b i hi).1, (B.b i hi).2.1⟩⟩
    have ok2 : (CbP.mk n (bl ⟨n.du, n.da, n.ri, n.se, min 2880 (n.le + b)⟩).length (fun i => (bl ⟨n.du, n.da, n.ri, n.se, min 2880 (n.le + b)⟩).getD i ⟨0, 0⟩) (a.tmod 2881)).ok := ⟨B'.len, fun i hi => ⟨(B'.b i hi).1, (B'.b i hi).2.1⟩⟩
    rw [g3] at hi
    have hlen := B.len
    unfold tm at h1 h2 h3 h4 h5
    have rb : (-9223372036854775808 ≤ b ∧ b ≤ 9223372036854775807) := by omega
    have rl : (-9223372036854775808 ≤ n.le + b ∧ n.le + b ≤ 9223372036854775807) := by omega
    have lf : ∀ {X : Prop}, (inS (fun i => (bl n).getD i ⟨0, 0⟩) (a.tmod 2881) (bl n).length ↔ X) → (-9223372036854775808 ≤ b ∧ b ≤ 9223372036854775807) ∧ (-9223372036854775808 ≤ n.le + b ∧ n.le + b ≤ 9223372036854775807) ∧ _ ∧ _ := fun h => ⟨rb, rl, ok2, fin_iff h hsum (rfl : (0 : Int) = 0)⟩
    refine ⟨hn, fun _ => ⟨by omega, by omega, ⟨0, by omega, rfl⟩, fun z hz => ⟨fun hl => ⟨by omega, hl, ?_⟩, fun hl => ⟨by omega, fun k => ⟨ok1, ?_⟩, fun k => ⟨ok1, ?_⟩⟩⟩⟩⟩
    · have b1 := (B.b z (by omega)).2.2
      have st : ∃ z_1, z_1 ≤ (bl n).length ∧ (bl n).length - z_1 < (bl n).length - z ∧ (z : Int) + 1 = (z_1 : Int) := ⟨z + 1, by omega, by omega, by omega⟩
      refine ⟨by omega, fun _ => ⟨fun h0 => ?_, fun _ => ⟨by omega, st⟩⟩⟩
      have hz1 : z = 1 := by omega
      subst hz1
      have b2 := B.r (by omega)
      have e : ((1 : Nat) : Int) - 1 = 0 := rfl
      rw [e]
      exact ⟨by omega, by omega, by omega, by show ¬ _ ≤ ((bl n).getD 0 _).hi; omega, fun _ => ⟨by omega, st⟩⟩
    · refine ⟨fun p1 => ⟨fun p2 => ⟨fun p3 => ⟨fun p4 => lf (hi.trans ⟨fun h => by omega, fun h => ⟨p1, p2, fun h2 => by omega⟩⟩), fun p4 => lf (hi.trans ⟨fun h => trivial, fun h => ⟨p1, p2, fun h2 => by omega⟩⟩)⟩, fun p3 => lf (hi.trans ⟨fun h => trivial, fun h => ⟨p1, p2, fun h2 => by omega⟩⟩)⟩, fun p2 => lf (hi.trans ⟨fun h => by omega, False.elim⟩)⟩, fun p1 => lf (hi.trans ⟨fun h => by omega, False.elim⟩)⟩
    · refine ⟨fun p1 => ⟨fun p2 => lf (hi.trans ⟨fun h => trivial, fun h => ⟨p1, p2, fun h2 => by omega⟩⟩), fun p2 => lf (hi.trans ⟨fun h => by omega, False.elim⟩)⟩, fun p1 => lf (hi.trans ⟨fun h => by omega, False.elim⟩)⟩
end Go.Proofs.Ytaoegpjlpiminaa
