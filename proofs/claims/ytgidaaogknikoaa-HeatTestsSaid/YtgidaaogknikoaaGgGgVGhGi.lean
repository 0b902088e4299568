import Derived.Test.YtgidaaogknikoaaGeGeVGf
set_option linter.unusedVariables false
set_option linter.unusedSimpArgs false
namespace Go.Proofs.Ytgidaaogknikoaa
open Go Go.Lg
attribute [local irreducible] bodyH funS
theorem rd2 (n s1 s2 : Nat) (t : FS) (X : XS) (k : Nat × Nat → Prop) (h : (match sget n t s1, sget n t s2 with
    | .int _ a, .int _ b => k (a.toNat, b.toNat)
    | _, _ => False)) : ∃ s, k s := by
  split at h
  · exact ⟨_, h⟩
  · exact h.elim
noncomputable def twH (n s1 s2 nr : Nat) (inv : Nat × Nat → Prop) (μ : Nat × Nat → Nat) (t : Nat × Nat → FS) (X : Nat × Nat → XS) : HSpec :=
  { toLSpec := { σ := Nat × Nat, inv := inv, μ := μ, nr := nr, ms := fun _ _ => [], t := t, X := X, rd := fun t X k => (match sget n t s1, sget n t s2 with
    | .int _ a, .int _ b => k (a.toNat, b.toNat)
    | _, _ => False), rdOK := rd2 n s1 s2 }, par := some ⟨fun t _ k => match sget n t s1 with
    | .int _ a => k a.toNat
    | _ => False, rdI⟩, kinv := fun y s => s.1 = y }
noncomputable def rinG (n a b : Int) : Prop := funH Try.prog (ctrs []) noX (ictrs []) noL noL 31 [i6 n, i6 a, i6 b] (.dec (a ≤ n ∧ n ≤ b) (Classical.propDecidable _))
noncomputable def rinC : Ctr := { frC with f := 31 }
noncomputable def rspG (a b : Int) : Prop := funH Try.prog (ctrs []) noX (ictrs []) noL noL 30 [.agg [i6 a, i6 b]] (.dec (okSp a b) (Classical.propDecidable _))
noncomputable def rspC : Ctr := { vhC with f := 30 }
noncomputable def rtsG (T : Tl) : Prop := funH Try.prog (ctrs [rinC, rspC]) noX (ictrs [])
  (oneL 0 (natH (fun k => k ≤ T.n ∧ ∀ i, i < k → okTs (T.f i)) (fun k => T.n - k) 0 (fun k => mkF 35 [(0, T.sv), (3, i6 k)]) (fun _ => mkX []) fun _ => none)) noL
  25 [T.sv] (.dec (okTl T) (Classical.propDecidable _))
noncomputable def rtsC : Ctr := ⟨25, fun args k => match args with
  | [.lst 4 n f] => SV.lst 4 n f = (tlOf n f).sv ∧ n ≤ 1000 ∧ k (.dec (okTl (tlOf n f)) (Classical.propDecidable _))
  | _ => False⟩
noncomputable def rdeG (d : De) : Prop := funH Try.prog (ctrs [rinC]) noX (ictrs []) noL noL 24 [d.sv] (.dec (okDe d) (Classical.propDecidable _))
noncomputable def rdeC : Ctr := { vdC with f := 24 }
noncomputable def rstG (d : De) (T : Tl) : Prop := funH Try.prog (ctrs [rdeC, rtsC]) noX (ictrs []) noL noL 39 [d.sv, T.sv] (i6 (erA d T))
noncomputable def rstC : Ctr := { caC with f := 39 }
noncomputable def lkH (d : De) (T : Tl) (h : Int) (i : Nat) : Int := (d.d - d.sl) * (fiN (fun k => inW (T.f k) h d.w) i : Nat) - sumJ (fun j => (winT T h d.w j).lo) (fiN (fun k => inW (T.f k) h d.w) i)
noncomputable def lkL (d : De) (T : Tl) (h : Int) (i : Nat) : Int := (d.d - d.sl) * (fiN (fun k => inW (T.f k) h d.w) i : Nat) - sumJ (fun j => (winT T h d.w j).hi) (fiN (fun k => inW (T.f k) h d.w) i)
noncomputable def lackL (d : De) (T : Tl) (h : Int) : Int := (ocH d T h).must * (ocH d T h).by' - (ocH d T h).sum
noncomputable def lackH (d : De) (T : Tl) (h : Int) : Int := (ocL d T h).must * (ocL d T h).by' - (ocL d T h).sum
noncomputable def rlkG (d : De) (T : Tl) (h : Int) : Prop := funH Try.prog (ctrs []) noX (ictrs [])
  (oneL 0 (natH (fun i => i ≤ T.n) (fun i => T.n - i) 3 (fun i => mkF 69 [(1, T.sv), (2, i6 h), (3, .ptr 0 0 0), (6, .ptr 1 0 0), (8, .ptr 2 0 0), (9, i6 (fiN (fun k => inW (T.f k) h d.w) i : Nat)), (10, i6 i)]) (fun i => mkX [vr 4 d.sv, vr 2 (.agg [i6 0, i6 0]), vr 2 (.agg [i6 (lkL d T h i), i6 (lkH d T h i)])]) fun _ => none)) noL
  40 [d.sv, T.sv, i6 h] (.tup [.agg [i6 (lackL d T h), i6 (lackH d T h)], i6 (winN T h d.w : Nat)])
noncomputable def rlkC : Ctr := ⟨40, fun args k => match args with
  | [.agg [.int .i64 a, .int .i64 b, .int .i64 c, .int .i64 d], .lst 4 n f, .int .i64 h] => SV.lst 4 n f = (tlOf n f).sv ∧ n ≤ 100 ∧ okDe ⟨a, b, c, d⟩ ∧ okTl (tlOf n f) ∧ (0 ≤ h ∧ h ≤ 1048576) ∧ k (.tup [.agg [i6 (lackL ⟨a, b, c, d⟩ (tlOf n f) h), i6 (lackH ⟨a, b, c, d⟩ (tlOf n f) h)], i6 (winN (tlOf n f) h a : Nat)])
  | _ => False⟩
def kepI (lo hi : Int) : Int := if hi ≤ 0 then 2 else if 0 < lo then 0 else 1
def rkpC : Ctr := ⟨41, fun args k => match args with
  | [.agg [.int .i64 a, .int .i64 b]] => k (i6 (kepI a b))
  | _ => False⟩
noncomputable def rkpG (a b : Int) : Prop := funH Try.prog (ctrs []) noX (ictrs []) noL noL 41 [.agg [i6 a, i6 b]] (i6 (kepI a b))
noncomputable def rkeG (d : De) (T : Tl) (h : Int) : Prop := funH Try.prog (ctrs [rstC, rinC, rlkC, rkpC]) noX (ictrs []) noL noL 15 [d.sv, T.sv, i6 h] (.tup [i6 (keI d T h), i6 (erJ d T h)])
noncomputable def rkeC : Ctr := { keC with f := 15 }
def payI (p lack n : Int) : Int := if lack ≤ 0 then 0 else (lack * p + n - 1).tdiv n
def rpaC : Ctr := ⟨26, fun args k => match args with
  | [.agg [.int .i64 a, .int .i64 b, .int .i64 c, .int .i64 d], .int .i64 l, .int .i64 n] => (0 ≤ d ∧ d ≤ 1000000) ∧ l ≤ 100000000 ∧ (0 < l → 1 ≤ n ∧ n ≤ 1000) ∧ k (i6 (payI d l n))
  | _ => False⟩
noncomputable def rpaG (d : De) (l n : Int) : Prop := funH Try.prog (ctrs []) noX (ictrs []) noL noL 26 [d.sv, i6 l, i6 n] (i6 (payI d.pay l n))
noncomputable def rduG (d : De) (T : Tl) (h : Int) : Prop := funH Try.prog (ctrs [rkeC, rlkC, rpaC]) noX (ictrs []) noL noL 17 [d.sv, T.sv, i6 h] (.tup [.agg [i6 (dL d T h), i6 (dH d T h)], i6 (erJ d T h)])
noncomputable def rduC : Ctr := { deC with f := 17 }
noncomputable def wsK (d : De) (T : Tl) (i : Nat) : Int × Int := match i with
  | 0 => (3, 0)
  | i + 1 => leastJ (verK d T) (i + 1)
noncomputable def rwoG (d : De) (T : Tl) : Prop := funH Try.prog (ctrs [rstC, rkeC]) noX (ictrs [])
  (oneL 0 (natH (fun i => i ≤ T.n) (fun i => T.n - i) 1 (fun i => mkF 64 [(1, T.sv), (2, .ptr 0 0 0), (8, i6 (wsK d T i).2), (9, i6 (wsK d T i).1), (10, i6 i)]) (fun i => mkX [vr 4 d.sv]) fun _ => none)) noL
  19 [d.sv, T.sv] (.tup [i6 (woH d T), i6 (woK d T), i6 (erW d T)])
noncomputable def rwoC : Ctr := { woC with f := 19 }
def tesP (T : Tl) (st a b : Int) : Prop := ∃ i, i < T.n ∧ (T.f i).s = st ∧ a ≤ (T.f i).h ∧ (T.f i).h ≤ b
noncomputable def rteG (T : Tl) (st a b : Int) : Prop := funH Try.prog (ctrs [rinC]) noX (ictrs [])
  (oneL 0 (natH (fun k => k ≤ T.n ∧ ∀ i, i < k → ¬ ((T.f i).s = st ∧ a ≤ (T.f i).h ∧ (T.f i).h ≤ b)) (fun k => T.n - k) 0 (fun k => mkF 33 [(0, T.sv), (1, i6 st), (2, i6 a), (3, i6 b), (9, i6 k)]) (fun _ => mkX []) fun _ => none)) noL
  52 [T.sv, i6 st, i6 a, i6 b] (.dec (tesP T st a b) (Classical.propDecidable _))
noncomputable def rteC : Ctr := ⟨52, fun args k => match args with
  | [.lst 4 n f, .int .i64 st, .int .i64 a, .int .i64 b] => SV.lst 4 n f = (tlOf n f).sv ∧ n ≤ 1000 ∧ k (.dec (tesP (tlOf n f) st a b) (Classical.propDecidable _))
  | _ => False⟩
noncomputable def rmiG (T : Tl) (st p lo hi : Int) : Prop := funH Try.prog (ctrs [rtsC, rinC, rteC]) noX (ictrs [])
  (twoL 0 (natH (fun z => lo + p - 1 ≤ z ∧ (z : Int) ≤ 1100000 ∧ ∀ x : Int, lo + p - 1 ≤ x → x < z → ∀ s : Nat, (s : Int) < st → ¬ gapP T s p x) (fun z => 1200000 - z) 1 (fun z => mkF 71 [(0, T.sv), (1, i6 st), (2, i6 p), (7, .ptr 0 0 0), (11, i6 z)]) (fun _ => mkX [vr 2 (.agg [i6 lo, i6 hi])]) fun _ => none) <|
   oneL 2 (twH 71 11 12 1 (fun z => z.2 ≤ st.toNat ∧ ∀ s : Nat, s < z.2 → ¬ gapP T s p z.1) (fun z => st.toNat - z.2) (fun z => mkF 71 [(0, T.sv), (1, i6 st), (2, i6 p), (7, .ptr 0 0 0), (11, i6 z.1), (12, i6 z.2)]) (fun _ => mkX [vr 2 (.agg [i6 lo, i6 hi])]))) noL
  21 [T.sv, i6 st, i6 p, .agg [i6 lo, i6 hi]] (.tup [i6 (miH T st p lo hi), i6 (miS T st p lo hi), i6 (erM T st p lo hi)])
noncomputable def rmiC : Ctr := { miC with f := 21 }
end Go.Proofs.Ytgidaaogknikoaa

set_option maxRecDepth 100000
namespace Go.Proofs.Ytgidaaogknikoaa
open Go Go.Lg
theorem rinG_vc (n : Int) (a : Int) (b : Int) : rinG n a b =
 ((a ≤ n → (n ≤ b ↔ a ≤ n ∧ n ≤ b) ∧ True) ∧ (¬a ≤ n → (false = true ↔ a ≤ n ∧ n ≤ b) ∧ True)) := by kernel_rfl
theorem rspG_vc (a : Int) (b : Int) : rspG a b =
 ((0 : Nat) < (1 : Nat) ∧
  ((0 : Int) ≤ a →
      (0 : Nat) < (1 : Nat) ∧
        (0 : Nat) < (1 : Nat) ∧
          (a ≤ b → (0 : Nat) < (1 : Nat) ∧ (b ≤ (10000 : Int) ↔ okSp a b) ∧ True) ∧
            (¬a ≤ b → (false = true ↔ okSp a b) ∧ True)) ∧
    (¬(0 : Int) ≤ a → (false = true ↔ okSp a b) ∧ True)) := by kernel_rfl
theorem rtsG_vc (T : Tl) : rtsG T =
 ((∃ (z : Nat), (z ≤ T.1 ∧ ∀ (i : Nat), i < z → okTs (T.f i)) ∧ T.1 = T.1 ∧ (∀ (i : Nat), i < T.1 → rE ((T.f i).sv.den) ∧ True ∧ True ∧ True ∧ True ∧ True) ∧ (0 : Int) = (↑z : Int) ∧ True) ∧ ∀ (z : Nat), (z ≤ T.1 ∧ ∀ (i : Nat), i < z → okTs (T.f i)) → ((↑z : Int) < (↑T.1 : Int) → (0 : Int) ≤ (↑z : Int) ∧ (↑z : Int) < (↑T.1 : Int) ∧ (¬((0 : Int) ≤ (T.f (↑z : Int).toNat).1 ∧ (T.f (↑z : Int).toNat).1 ≤ (1048576 : Int)) → (false = true ↔ okTl T) ∧ True) ∧ (¬¬((0 : Int) ≤ (T.f (↑z : Int).toNat).1 ∧ (T.f (↑z : Int).toNat).1 ≤ (1048576 : Int)) → (0 : Int) ≤ (↑z : Int) ∧ (↑z : Int) < (↑T.1 : Int) ∧ (¬((0 : Int) ≤ (T.f (↑z : Int).toNat).2 ∧ (T.f (↑z : Int).toNat).2 ≤ (15 : Int)) → (false = true ↔ okTl T) ∧ True) ∧ (¬¬((0 : Int) ≤ (T.f (↑z : Int).toNat).2 ∧ (T.f (↑z : Int).toNat).2 ≤ (15 : Int)) → (0 : Int) ≤ (↑z : Int) ∧ (↑z : Int) < (↑T.1 : Int) ∧ (¬okSp (T.f (↑z : Int).toNat).lo (T.f (↑z :
 Int).toNat).hi → (false = true ↔ okTl T) ∧ True) ∧ (¬¬okSp (T.f (↑z : Int).toNat).lo (T.f (↑z : Int).toNat).hi → rI ((↑z : Int) + (1 : Int)) ∧ ∃ (z_1 : Nat), (z_1 ≤ T.1 ∧ ∀ (i : Nat), i < z_1 → okTs (T.f i)) ∧ T.1 - z_1 < T.1 - z ∧ T.1 = T.1 ∧ (∀ (i : Nat), i < T.1 → rE ((T.f i).sv.den) ∧ True ∧ True ∧ True ∧ True ∧ True) ∧ (↑z : Int) + (1 : Int) = (↑z_1 : Int) ∧ True)))) ∧ (¬(↑z : Int) < (↑T.1 : Int) → (rE true ↔ okTl T) ∧ True)) := by kernel_rfl
theorem rdeG_vc (d : De) : rdeG d =
 ((0 : Nat) < (1 : Nat) ∧
  ((1 : Int) ≤ d.1 ∧ d.1 ≤ (10000 : Int) →
      (0 : Nat) < (1 : Nat) ∧
        ((0 : Int) ≤ d.2 ∧ d.2 ≤ (10000 : Int) →
            (0 : Nat) < (1 : Nat) ∧
              (0 : Nat) < (1 : Nat) ∧
                ((0 : Int) ≤ d.3 ∧ d.3 ≤ d.2 →
                    (0 : Nat) < (1 : Nat) ∧ ((0 : Int) ≤ d.4 ∧ d.4 ≤ (1000000 : Int) ↔ okDe d) ∧ True) ∧
                  (¬((0 : Int) ≤ d.3 ∧ d.3 ≤ d.2) → (false = true ↔ okDe d) ∧ True)) ∧
          (¬((0 : Int) ≤ d.2 ∧ d.2 ≤ (10000 : Int)) → (false = true ↔ okDe d) ∧ True)) ∧
    (¬((1 : Int) ≤ d.1 ∧ d.1 ≤ (10000 : Int)) → (false = true ↔ okDe d) ∧ True)) := by kernel_rfl
theorem rstG_vc (d : De) (T : Tl) : rstG d T =
 (((32 : Int) < (↑T.1 : Int) → (3 : Int) = erA d T ∧ True) ∧
  (¬(32 : Int) < (↑T.1 : Int) →
    (0 : Nat) < (1 : Nat) ∧
      (¬okDe d → (1 : Int) = erA d T ∧ True) ∧
        (¬¬okDe d →
          (∀ (i : Nat), i < T.1 → True ∧ True ∧ True ∧ True ∧ True) ∧
            T.sv = T.sv ∧
              T.1 ≤ (1000 : Nat) ∧ (¬okTl T → (1 : Int) = erA d T ∧ True) ∧ (¬¬okTl T → (0 : Int) = erA d T ∧ True)))) := by kernel_rfl
theorem rlkG_vc (d : De) (T : Tl) (h : Int) : rlkG d T h =
 ((∃ (z : Nat), z ≤ T.1 ∧ T.1 = T.1 ∧ (∀ (i : Nat), i < T.1 → rE ((T.f i).sv.den) ∧ True ∧ True ∧ True ∧ True ∧ True) ∧ h = h ∧ rE (0 : Nat) ∧ rE (0 : Nat) ∧ rE (0 : Nat) ∧ rE (0 : Nat) ∧ rE (0 : Nat) ∧ rE (0 : Nat) ∧ (0 : Int) = (↑(fiN (fun k => inW (T.f k) h d.w) z) : Int) ∧ (0 : Int) = (↑z : Int) ∧ d.1 = d.1 ∧ d.2 = d.2 ∧ d.3 = d.3 ∧ d.4 = d.4 ∧ rE (0 : Int) ∧ rE (0 : Int) ∧ (0 : Int) = lkL d T h z ∧ (0 : Int) = lkH d T h z ∧ True) ∧ ∀ (z : Nat), z ≤ T.1 → ((↑z : Int) < (↑T.1 : Int) → (0 : Int) ≤ (↑z : Int) ∧ (↑z : Int) < (↑T.1 : Int) ∧ (0 : Nat) < (1 : Nat) ∧ rI (h - d.1) ∧ (h - d.1 < (T.f (↑z : Int).toNat).1 → (0 : Int) ≤ (↑z : Int) ∧ (↑z : Int) < (↑T.1 : Int) ∧ ((T.f (↑z : Int).toNat).1 ≤ h → (0 : Nat) < (1 : Nat) ∧ (0 : Nat) < (1 : Nat) ∧ rI (d.2 - d.3) ∧ (0 : Nat) < (1 : Nat) ∧ rI (lkL d T h z + (d.2 - d.3)) ∧ (0 : Int) ≤ (↑z : Int) ∧ (↑z : Int) < (↑T.1 : Int) ∧ rI (lkL d T h z +
 (d.2 - d.3) - (T.f (↑z : Int).toNat).4) ∧ (0 : Nat) < (1 : Nat) ∧ rI (lkH d T h z + (d.2 - d.3)) ∧ (0 : Int) ≤ (↑z : Int) ∧ (↑z : Int) < (↑T.1 : Int) ∧ rI (lkH d T h z + (d.2 - d.3) - (T.f (↑z : Int).toNat).3) ∧ rI ((↑(fiN (fun k => inW (T.f k) h d.w) z) : Int) + (1 : Int)) ∧ rI ((↑z : Int) + (1 : Int)) ∧ ∃ (z_1 : Nat), z_1 ≤ T.1 ∧ T.1 - z_1 < T.1 - z ∧ T.1 = T.1 ∧ (∀ (i : Nat), i < T.1 → rE ((T.f i).sv.den) ∧ True ∧ True ∧ True ∧ True ∧ True) ∧ h = h ∧ rE (0 : Nat) ∧ rE (0 : Nat) ∧ rE (0 : Nat) ∧ rE (0 : Nat) ∧ rE (0 : Nat) ∧ rE (0 : Nat) ∧ (↑(fiN (fun k => inW (T.f k) h d.w) z) : Int) + (1 : Int) = (↑(fiN (fun k => inW (T.f k) h d.w) z_1) : Int) ∧ (↑z : Int) + (1 : Int) = (↑z_1 : Int) ∧ d.1 = d.1 ∧ d.2 = d.2 ∧ d.3 = d.3 ∧ d.4 = d.4 ∧ rE (0 : Int) ∧ rE (0 : Int) ∧ lkL d T h z + (d.2 - d.3) - (T.f (↑z : Int).toNat).4 = lkL d T h z_1 ∧ lkH d T h z + (d.2 - d.3) - (T.f (↑z : Int).toNat).3
 = lkH d T h z_1 ∧ True) ∧ (¬(T.f (↑z : Int).toNat).1 ≤ h → rI ((↑z : Int) + (1 : Int)) ∧ ∃ (z_1 : Nat), z_1 ≤ T.1 ∧ T.1 - z_1 < T.1 - z ∧ T.1 = T.1 ∧ (∀ (i : Nat), i < T.1 → rE ((T.f i).sv.den) ∧ True ∧ True ∧ True ∧ True ∧ True) ∧ h = h ∧ rE (0 : Nat) ∧ rE (0 : Nat) ∧ rE (0 : Nat) ∧ rE (0 : Nat) ∧ rE (0 : Nat) ∧ rE (0 : Nat) ∧ (↑(fiN (fun k => inW (T.f k) h d.w) z) : Int) = (↑(fiN (fun k => inW (T.f k) h d.w) z_1) : Int) ∧ (↑z : Int) + (1 : Int) = (↑z_1 : Int) ∧ d.1 = d.1 ∧ d.2 = d.2 ∧ d.3 = d.3 ∧ d.4 = d.4 ∧ rE (0 : Int) ∧ rE (0 : Int) ∧ lkL d T h z = lkL d T h z_1 ∧ lkH d T h z = lkH d T h z_1 ∧ True)) ∧ (¬h - d.1 < (T.f (↑z : Int).toNat).1 → rI ((↑z : Int) + (1 : Int)) ∧ ∃ (z_1 : Nat), z_1 ≤ T.1 ∧ T.1 - z_1 < T.1 - z ∧ T.1 = T.1 ∧ (∀ (i : Nat), i < T.1 → rE ((T.f i).sv.den) ∧ True ∧ True ∧ True ∧ True ∧ True) ∧ h = h ∧ rE (0 : Nat) ∧ rE (0 : Nat) ∧ rE (0 : Nat) ∧ rE (0 : Nat) ∧ rE
 (0 : Nat) ∧ rE (0 : Nat) ∧ (↑(fiN (fun k => inW (T.f k) h d.w) z) : Int) = (↑(fiN (fun k => inW (T.f k) h d.w) z_1) : Int) ∧ (↑z : Int) + (1 : Int) = (↑z_1 : Int) ∧ d.1 = d.1 ∧ d.2 = d.2 ∧ d.3 = d.3 ∧ d.4 = d.4 ∧ rE (0 : Int) ∧ rE (0 : Int) ∧ lkL d T h z = lkL d T h z_1 ∧ lkH d T h z = lkH d T h z_1 ∧ True)) ∧ (¬(↑z : Int) < (↑T.1 : Int) → (0 : Nat) < (1 : Nat) ∧ (0 : Nat) < (1 : Nat) ∧ lkL d T h z = lackL d T h ∧ lkH d T h z = lackH d T h ∧ (↑(fiN (fun k => inW (T.f k) h d.w) z) : Int) = (↑(winN T h d.1) : Int) ∧ True)) := by kernel_rfl
theorem rkpG_vc (a : Int) (b : Int) : rkpG a b =
 ((0 : Nat) < (1 : Nat) ∧
  (b ≤ (0 : Int) → (2 : Int) = kepI a b ∧ True) ∧
    (¬b ≤ (0 : Int) →
      (0 : Nat) < (1 : Nat) ∧
        ((0 : Int) < a → (0 : Int) = kepI a b ∧ True) ∧ (¬(0 : Int) < a → (1 : Int) = kepI a b ∧ True))) := by kernel_rfl
theorem rkeG_vc (d : De) (T : Tl) (h : Int) : rkeG d T h =
 ((0 : Nat) < (1 : Nat) ∧
  (∀ (i : Nat), i < T.1 → True ∧ True ∧ True ∧ True ∧ True) ∧
    T.sv = T.sv ∧
      T.1 ≤ (1000 : Nat) ∧
        (¬erA d T = (0 : Int) → (0 : Int) = keI d T h ∧ erA d T = erJ d T h ∧ True) ∧
          (¬¬erA d T = (0 : Int) →
            (¬((0 : Int) ≤ h ∧ h ≤ (1048576 : Int)) → (0 : Int) = keI d T h ∧ (2 : Int) = erJ d T h ∧ True) ∧
              (¬¬((0 : Int) ≤ h ∧ h ≤ (1048576 : Int)) →
                (0 : Nat) < (1 : Nat) ∧
                  (∀ (i : Nat), i < T.1 → True ∧ True ∧ True ∧ True ∧ True) ∧
                    T.sv = T.sv ∧
                      T.1 ≤ (100 : Nat) ∧
                        okDe d ∧
                          okTl T ∧
                            ((0 : Int) ≤ h ∧ h ≤ (1048576 : Int)) ∧
                              ((↑(winN T h d.1) : Int) = (0 : Int) →
                                  (0 : Int) = keI d T h ∧ (4 : Int) = erJ d T h ∧ True) ∧
                                (¬(↑(winN T h d.1) : Int) = (0 : Int) →
                                  (0 : Nat) < (1 : Nat) ∧
                                    kepI (lackL d T h) (lackH d T h) = keI d T h ∧ (0 : Int) = erJ d T h ∧ True)))) := by kernel_rfl
theorem rpaG_vc (d : De) (l : Int) (n : Int) : rpaG d l n =
 ((l ≤ (0 : Int) → (0 : Int) = payI d.4 l n ∧ True) ∧
  (¬l ≤ (0 : Int) →
    (0 : Nat) < (1 : Nat) ∧
      ((-9223372036854775808 : Int) ≤ l * d.4 ∧ l * d.4 ≤ (9223372036854775807 : Int)) ∧
        ((-9223372036854775808 : Int) ≤ l * d.4 + n ∧ l * d.4 + n ≤ (9223372036854775807 : Int)) ∧
          ((-9223372036854775808 : Int) ≤ l * d.4 + n - (1 : Int) ∧
              l * d.4 + n - (1 : Int) ≤ (9223372036854775807 : Int)) ∧
            (n = (0 : Int) → False) ∧
              ((-9223372036854775808 : Int) ≤ (l * d.4 + n - (1 : Int)).tdiv n ∧
                  (l * d.4 + n - (1 : Int)).tdiv n ≤ (9223372036854775807 : Int)) ∧
                (l * d.4 + n - (1 : Int)).tdiv n = payI d.4 l n ∧ True)) := by kernel_rfl
theorem rduG_vc (d : De) (T : Tl) (h : Int) : rduG d T h =
 ((0 : Nat) < (1 : Nat) ∧ (∀ (i : Nat), i < T.1 → True ∧ True ∧ True ∧ True ∧ True) ∧ rE T.sv ∧ T.1 ≤ (1000 : Nat) ∧ (¬erJ d T h = (0 : Int) → (0 : Nat) < (1 : Nat) ∧ (0 : Int) = dL d T h ∧ (0 : Int) = dH d T h ∧ rE (erJ d T h) ∧ True) ∧ (¬¬erJ d T h = (0 : Int) → (0 : Nat) < (1 : Nat) ∧ (∀ (i : Nat), i < T.1 → True ∧ True ∧ True ∧ True ∧ True) ∧ rE T.sv ∧ T.1 ≤ (100 : Nat) ∧ okDe d ∧ okTl T ∧ ((0 : Int) ≤ h ∧ h ≤ (1048576 : Int)) ∧ (0 : Nat) < (1 : Nat) ∧ (0 : Nat) < (1 : Nat) ∧ ((0 : Int) ≤ d.4 ∧ d.4 ≤ (1000000 : Int)) ∧ lackL d T h ≤ (100000000 : Int) ∧ ((0 : Int) < lackL d T h → (1 : Int) ≤ (↑(winN T h d.1) : Int) ∧ (↑(winN T h d.1) : Int) ≤ (1000 : Int)) ∧ (0 : Nat) < (1 : Nat) ∧ (0 : Nat) < (1 : Nat) ∧ ((0 : Int) ≤ d.4 ∧ d.4 ≤ (1000000 : Int)) ∧ lackH d T h ≤ (100000000 : Int) ∧ ((0 : Int) < lackH d T h → (1 : Int) ≤ (↑(winN T h d.1) : Int) ∧ (↑(winN T h d.1) : Int) ≤ (1000 : Int))
 ∧ (0 : Nat) < (1 : Nat) ∧ payI d.4 (lackL d T h) (↑(winN T h d.1) : Int) = dL d T h ∧ payI d.4 (lackH d T h) (↑(winN T h d.1) : Int) = dH d T h ∧ (0 : Int) = erJ d T h ∧ True)) := by kernel_rfl
theorem rwoG_vc (d : De) (T : Tl) : rwoG d T =
 ((0 : Nat) < (1 : Nat) ∧ (∀ (i : Nat), i < T.1 → True ∧ True ∧ True ∧ True ∧ True) ∧ rE T.sv ∧ T.1 ≤ (1000 : Nat) ∧ (¬erA d T = (0 : Int) → (0 : Int) = woH d T ∧ (0 : Int) = woK d T ∧ erA d T = erW d T ∧ True) ∧ (¬¬erA d T = (0 : Int) → ((↑T.1 : Int) = (0 : Int) → (0 : Int) = woH d T ∧ (0 : Int) = woK d T ∧ (4 : Int) = erW d T ∧ True) ∧ (¬(↑T.1 : Int) = (0 : Int) → (∃ (z : Nat), z ≤ T.1 ∧ T.1 = T.1 ∧ (∀ (i : Nat), i < T.1 → rE ((T.f i).sv.den) ∧ True ∧ True ∧ True ∧ True ∧ True) ∧ rE (0 : Nat) ∧ rE (0 : Nat) ∧ (0 : Int) = (wsK d T z).2 ∧ (3 : Int) = (wsK d T z).1 ∧ (0 : Int) = (↑z : Int) ∧ d.1 = d.1 ∧ d.2 = d.2 ∧ d.3 = d.3 ∧ d.4 = d.4 ∧ True) ∧ ∀ (z : Nat), z ≤ T.1 → ((↑z : Int) < (↑T.1 : Int) → (0 : Nat) < (1 : Nat) ∧ (0 : Int) ≤ (↑z : Int) ∧ (↑z : Int) < (↑T.1 : Int) ∧ (∀ (i : Nat), i < T.1 → True ∧ True ∧ True ∧ True ∧ True) ∧ rE T.sv ∧ T.1 ≤ (1000 : Nat) ∧ (keI d T (T.f (↑z :
 Int).toNat).1 < (wsK d T z).1 → (0 : Int) ≤ (↑z : Int) ∧ (↑z : Int) < (↑T.1 : Int) ∧ rI ((↑z : Int) + (1 : Int)) ∧ ∃ (z_1 : Nat), z_1 ≤ T.1 ∧ T.1 - z_1 < T.1 - z ∧ T.1 = T.1 ∧ (∀ (i : Nat), i < T.1 → rE ((T.f i).sv.den) ∧ True ∧ True ∧ True ∧ True ∧ True) ∧ rE (0 : Nat) ∧ rE (0 : Nat) ∧ (T.f (↑z : Int).toNat).1 = (wsK d T z_1).2 ∧ keI d T (T.f (↑z : Int).toNat).1 = (wsK d T z_1).1 ∧ (↑z : Int) + (1 : Int) = (↑z_1 : Int) ∧ d.1 = d.1 ∧ d.2 = d.2 ∧ d.3 = d.3 ∧ d.4 = d.4 ∧ True) ∧ (¬keI d T (T.f (↑z : Int).toNat).1 < (wsK d T z).1 → (keI d T (T.f (↑z : Int).toNat).1 = (wsK d T z).1 → (0 : Int) ≤ (↑z : Int) ∧ (↑z : Int) < (↑T.1 : Int) ∧ ((T.f (↑z : Int).toNat).1 < (wsK d T z).2 → (0 : Int) ≤ (↑z : Int) ∧ (↑z : Int) < (↑T.1 : Int) ∧ rI ((↑z : Int) + (1 : Int)) ∧ ∃ (z_1 : Nat), z_1 ≤ T.1 ∧ T.1 - z_1 < T.1 - z ∧ T.1 = T.1 ∧ (∀ (i : Nat), i < T.1 → rE ((T.f i).sv.den) ∧ True ∧ True ∧ True ∧ True
 ∧ True) ∧ rE (0 : Nat) ∧ rE (0 : Nat) ∧ (T.f (↑z : Int).toNat).1 = (wsK d T z_1).2 ∧ keI d T (T.f (↑z : Int).toNat).1 = (wsK d T z_1).1 ∧ (↑z : Int) + (1 : Int) = (↑z_1 : Int) ∧ d.1 = d.1 ∧ d.2 = d.2 ∧ d.3 = d.3 ∧ d.4 = d.4 ∧ True) ∧ (¬(T.f (↑z : Int).toNat).1 < (wsK d T z).2 → rI ((↑z : Int) + (1 : Int)) ∧ ∃ (z_1 : Nat), z_1 ≤ T.1 ∧ T.1 - z_1 < T.1 - z ∧ T.1 = T.1 ∧ (∀ (i : Nat), i < T.1 → rE ((T.f i).sv.den) ∧ True ∧ True ∧ True ∧ True ∧ True) ∧ rE (0 : Nat) ∧ rE (0 : Nat) ∧ (wsK d T z).2 = (wsK d T z_1).2 ∧ (wsK d T z).1 = (wsK d T z_1).1 ∧ (↑z : Int) + (1 : Int) = (↑z_1 : Int) ∧ d.1 = d.1 ∧ d.2 = d.2 ∧ d.3 = d.3 ∧ d.4 = d.4 ∧ True)) ∧ (¬keI d T (T.f (↑z : Int).toNat).1 = (wsK d T z).1 → rI ((↑z : Int) + (1 : Int)) ∧ ∃ (z_1 : Nat), z_1 ≤ T.1 ∧ T.1 - z_1 < T.1 - z ∧ T.1 = T.1 ∧ (∀ (i : Nat), i < T.1 → rE ((T.f i).sv.den) ∧ True ∧ True ∧ True ∧ True ∧ True) ∧ rE (0 : Nat) ∧ rE (0 :
 Nat) ∧ (wsK d T z).2 = (wsK d T z_1).2 ∧ (wsK d T z).1 = (wsK d T z_1).1 ∧ (↑z : Int) + (1 : Int) = (↑z_1 : Int) ∧ d.1 = d.1 ∧ d.2 = d.2 ∧ d.3 = d.3 ∧ d.4 = d.4 ∧ True))) ∧ (¬(↑z : Int) < (↑T.1 : Int) → (wsK d T z).2 = woH d T ∧ (wsK d T z).1 = woK d T ∧ (0 : Int) = erW d T ∧ True)))) := by kernel_rfl
theorem rteG_vc (T : Tl) (st : Int) (a : Int) (b : Int) : rteG T st a b =
 ((∃ (z : Nat), (z ≤ T.1 ∧ ∀ (i : Nat), i < z → ¬((T.f i).2 = st ∧ a ≤ (T.f i).1 ∧ (T.f i).1 ≤ b)) ∧ T.1 = T.1 ∧ (∀ (i : Nat), i < T.1 → rE ((T.f i).sv.den) ∧ True ∧ True ∧ True ∧ True ∧ True) ∧ st = st ∧ a = a ∧ b = b ∧ (0 : Int) = (↑z : Int) ∧ True) ∧ ∀ (z : Nat), (z ≤ T.1 ∧ ∀ (i : Nat), i < z → ¬((T.f i).2 = st ∧ a ≤ (T.f i).1 ∧ (T.f i).1 ≤ b)) → ((↑z : Int) < (↑T.1 : Int) → (0 : Int) ≤ (↑z : Int) ∧ (↑z : Int) < (↑T.1 : Int) ∧ ((T.f (↑z : Int).toNat).2 = st → (0 : Int) ≤ (↑z : Int) ∧ (↑z : Int) < (↑T.1 : Int) ∧ (a ≤ (T.f (↑z : Int).toNat).1 ∧ (T.f (↑z : Int).toNat).1 ≤ b → (rE true ↔ tesP T st a b) ∧ True) ∧ (¬(a ≤ (T.f (↑z : Int).toNat).1 ∧ (T.f (↑z : Int).toNat).1 ≤ b) → rI ((↑z : Int) + (1 : Int)) ∧ ∃ (z_1 : Nat), (z_1 ≤ T.1 ∧ ∀ (i : Nat), i < z_1 → ¬((T.f i).2 = st ∧ a ≤ (T.f i).1 ∧ (T.f i).1 ≤ b)) ∧ T.1 - z_1 < T.1 - z ∧ T.1 = T.1 ∧ (∀ (i : Nat), i < T.1 → rE ((T.f i).sv.den) ∧
 True ∧ True ∧ True ∧ True ∧ True) ∧ st = st ∧ a = a ∧ b = b ∧ (↑z : Int) + (1 : Int) = (↑z_1 : Int) ∧ True)) ∧ (¬(T.f (↑z : Int).toNat).2 = st → rI ((↑z : Int) + (1 : Int)) ∧ ∃ (z_1 : Nat), (z_1 ≤ T.1 ∧ ∀ (i : Nat), i < z_1 → ¬((T.f i).2 = st ∧ a ≤ (T.f i).1 ∧ (T.f i).1 ≤ b)) ∧ T.1 - z_1 < T.1 - z ∧ T.1 = T.1 ∧ (∀ (i : Nat), i < T.1 → rE ((T.f i).sv.den) ∧ True ∧ True ∧ True ∧ True ∧ True) ∧ st = st ∧ a = a ∧ b = b ∧ (↑z : Int) + (1 : Int) = (↑z_1 : Int) ∧ True)) ∧ (¬(↑z : Int) < (↑T.1 : Int) → (false = true ↔ tesP T st a b) ∧ True)) := by kernel_rfl
theorem rmiG_vc (T : Tl) (st : Int) (p : Int) (lo : Int) (hi : Int) : rmiG T st p lo hi =
 (((32 : Int) < (↑T.1 : Int) → (0 : Int) = miH T st p lo hi ∧ (0 : Int) = miS T st p lo hi ∧ (3 : Int) = erM T st p lo hi ∧ True) ∧ (¬(32 : Int) < (↑T.1 : Int) → (∀ (i : Nat), i < T.1 → True ∧ True ∧ True ∧ True ∧ True) ∧ rE T.sv ∧ T.1 ≤ (1000 : Nat) ∧ (¬okTl T → (0 : Int) = miH T st p lo hi ∧ (0 : Int) = miS T st p lo hi ∧ (1 : Int) = erM T st p lo hi ∧ True) ∧ (¬¬okTl T → (¬((1 : Int) ≤ st ∧ st ≤ (16 : Int)) → (0 : Int) = miH T st p lo hi ∧ (0 : Int) = miS T st p lo hi ∧ (2 : Int) = erM T st p lo hi ∧ True) ∧ (¬¬((1 : Int) ≤ st ∧ st ≤ (16 : Int)) → (¬((1 : Int) ≤ p ∧ p ≤ (10000 : Int)) → (0 : Int) = miH T st p lo hi ∧ (0 : Int) = miS T st p lo hi ∧ (2 : Int) = erM T st p lo hi ∧ True) ∧ (¬¬((1 : Int) ≤ p ∧ p ≤ (10000 : Int)) → (0 : Nat) < (1 : Nat) ∧ (lo < (0 : Int) → (0 : Int) = miH T st p lo hi ∧ (0 : Int) = miS T st p lo hi ∧ (2 : Int) = erM T st p lo hi ∧ True) ∧ (¬lo < (0 : Int) →
 (0 : Nat) < (1 : Nat) ∧ (0 : Nat) < (1 : Nat) ∧ (hi < lo → (0 : Int) = miH T st p lo hi ∧ (0 : Int) = miS T st p lo hi ∧ (2 : Int) = erM T st p lo hi ∧ True) ∧ (¬hi < lo → (0 : Nat) < (1 : Nat) ∧ ((1048576 : Int) < hi → (0 : Int) = miH T st p lo hi ∧ (0 : Int) = miS T st p lo hi ∧ (2 : Int) = erM T st p lo hi ∧ True) ∧ (¬(1048576 : Int) < hi → (0 : Nat) < (1 : Nat) ∧ rI (lo + p) ∧ rI (lo + p - (1 : Int)) ∧ (∃ (z : Nat), (lo + p - (1 : Int) ≤ (↑z : Int) ∧ (↑z : Int) ≤ (1100000 : Int) ∧ ∀ (x : Int), lo + p - (1 : Int) ≤ x → x < (↑z : Int) → ∀ (s : Nat), (↑s : Int) < st → ¬gapP T (↑s : Int) p x) ∧ T.1 = T.1 ∧ (∀ (i : Nat), i < T.1 → rE ((T.f i).sv.den) ∧ True ∧ True ∧ True ∧ True ∧ True) ∧ st = st ∧ p = p ∧ rE (0 : Nat) ∧ rE (0 : Nat) ∧ lo + p - (1 : Int) = (↑z : Int) ∧ lo = lo ∧ hi = hi ∧ True) ∧ ∀ (z : Nat), (lo + p - (1 : Int) ≤ (↑z : Int) ∧ (↑z : Int) ≤ (1100000 : Int) ∧ ∀ (x : Int),
 lo + p - (1 : Int) ≤ x → x < (↑z : Int) → ∀ (s : Nat), (↑s : Int) < st → ¬gapP T (↑s : Int) p x) → (0 : Nat) < (1 : Nat) ∧ ((↑z : Int) ≤ hi → ((((0 : Nat) ≤ st.toNat ∧ ∀ (s : Nat), s < (0 : Nat) → ¬gapP T (↑s : Int) p (↑(↑z : Int).toNat : Int)) ∧ z = (↑z : Int).toNat) ∧ T.1 = T.1 ∧ (∀ (i : Nat), i < T.1 → rE ((T.f i).sv.den) ∧ True ∧ True ∧ True ∧ True ∧ True) ∧ st = st ∧ p = p ∧ rE (0 : Nat) ∧ rE (0 : Nat) ∧ rE (↑z : Int) ∧ (0 : Int) = (↑(0 : Nat) : Int) ∧ lo = lo ∧ hi = hi ∧ True) ∧ ∀ (z_1 : Nat × Nat), (z_1.2 ≤ st.toNat ∧ ∀ (s : Nat), s < z_1.2 → ¬gapP T (↑s : Int) p (↑z_1.fst : Int)) ∧ z_1.1 = (↑z : Int).toNat → ((↑z_1.2 : Int) < st → rI ((↑z_1.1 : Int) - p) ∧ rI ((↑z_1.1 : Int) - p + (1 : Int)) ∧ (∀ (i : Nat), i < T.1 → True ∧ True ∧ True ∧ True ∧ True) ∧ rE T.sv ∧ T.1 ≤ (1000 : Nat) ∧ (¬tesP T (↑z_1.snd : Int) ((↑z_1.fst : Int) - p + (1 : Int)) (↑z_1.fst : Int) → (↑z_1.1 : Int) =
 miH T st p lo hi ∧ (↑z_1.2 : Int) = miS T st p lo hi ∧ (0 : Int) = erM T st p lo hi ∧ True) ∧ (¬¬tesP T (↑z_1.snd : Int) ((↑z_1.fst : Int) - p + (1 : Int)) (↑z_1.fst : Int) → rI ((↑z_1.2 : Int) + (1 : Int)) ∧ ((((↑z_1.2 : Int) + (1 : Int)).toNat ≤ st.toNat ∧ ∀ (s : Nat), s < ((↑z_1.2 : Int) + (1 : Int)).toNat → ¬gapP T (↑s : Int) p (↑(↑z_1.fst : Int).toNat : Int)) ∧ (↑z_1.1 : Int).toNat = (↑z : Int).toNat) ∧ st.toNat - ((↑z_1.2 : Int) + (1 : Int)).toNat < st.toNat - z_1.2 ∧ T.1 = T.1 ∧ (∀ (i : Nat), i < T.1 → rE ((T.f i).sv.den) ∧ True ∧ True ∧ True ∧ True ∧ True) ∧ st = st ∧ p = p ∧ rE (0 : Nat) ∧ rE (0 : Nat) ∧ (↑z_1.1 : Int) = (↑(↑z_1.1 : Int).toNat : Int) ∧ (↑z_1.2 : Int) + (1 : Int) = (↑((↑z_1.2 : Int) + (1 : Int)).toNat : Int) ∧ lo = lo ∧ hi = hi ∧ True)) ∧ (¬(↑z_1.2 : Int) < st → rI ((↑z_1.1 : Int) + (1 : Int)) ∧ ∃ (z_2 : Nat), (lo + p - (1 : Int) ≤ (↑z_2 : Int) ∧ (↑z_2 : Int) ≤
 (1100000 : Int) ∧ ∀ (x : Int), lo + p - (1 : Int) ≤ x → x < (↑z_2 : Int) → ∀ (s : Nat), (↑s : Int) < st → ¬gapP T (↑s : Int) p x) ∧ (1200000 : Nat) - z_2 < (1200000 : Nat) - z ∧ T.1 = T.1 ∧ (∀ (i : Nat), i < T.1 → rE ((T.f i).sv.den) ∧ True ∧ True ∧ True ∧ True ∧ True) ∧ st = st ∧ p = p ∧ rE (0 : Nat) ∧ rE (0 : Nat) ∧ (↑z_1.1 : Int) + (1 : Int) = (↑z_2 : Int) ∧ lo = lo ∧ hi = hi ∧ True)) ∧ (¬(↑z : Int) ≤ hi → (0 : Int) = miH T st p lo hi ∧ (0 : Int) = miS T st p lo hi ∧ (4 : Int) = erM T st p lo hi ∧ True))))))))) := by kernel_rfl
end Go.Proofs.Ytgidaaogknikoaa

set_option maxRecDepth 100000
namespace Go.Proofs.Ytgidaaogknikoaa
open Go Go.Lg
attribute [local irreducible] funS bodyH
theorem rin_true (n a b : Int) : rinG n a b := by
  rw [rinG_vc]
  simp only [and_true, Bool.false_eq_true, false_iff]
  exact ⟨fun h => ⟨fun h2 => ⟨h, h2⟩, fun h2 => h2.2⟩, fun h h2 => h h2.1⟩
theorem rin_ok : rinC.Ok Try.prog := by
  refine ⟨by kernel_rfl, fun x k hk => ?_⟩
  simp only [rinC, frC] at hk
  split at hk
  · rename_i n a b
    have hh := rin_true n a b
    unfold rinG at hh
    exact ⟨_, Does.plain (funH_does nilS_cs nilS_x nilS_ic mixed hh) trivial, hk⟩
  · exact hk.elim
theorem rin_cs : SoundS Try.prog (ctrs [rinC]) := ctrs_sound (by intro x hx; simp at hx; subst hx; exact rin_ok)
theorem rsp_true (a b : Int) : rspG a b := by
  rw [rspG_vc]
  simp only [and_true, true_and, Nat.zero_lt_one, Bool.false_eq_true, false_iff]
  refine ⟨fun h => ⟨fun h1 => ⟨fun h2 => ⟨h, h1, h2⟩, fun h2 => h2.c⟩, fun h1 h2 => h1 h2.b⟩, fun h h2 => h h2.a⟩
theorem rsp_ok : rspC.Ok Try.prog := by
  refine ⟨by kernel_rfl, fun x k hk => ?_⟩
  simp only [rspC, vhC] at hk
  split at hk
  · rename_i a b
    have hh := rsp_true a b
    unfold rspG at hh
    exact ⟨_, Does.plain (funH_does nilS_cs nilS_x nilS_ic mixed hh) trivial, hk⟩
  · exact hk.elim
theorem rts_true {T : Tl} (hn : T.n ≤ 1000) : rtsG T := by
  rw [rtsG_vc]
  simp only [rI, rE, tt3, tt4, tt5, tt13, tt14, and_true, true_and, Nat.zero_lt_one, implies_true, Int.toNat_natCast, Bool.false_eq_true, false_iff, true_iff, Classical.not_not]
  refine ⟨⟨0, ⟨by omega, fun i hi => by omega⟩, rfl⟩, fun z hz => ⟨fun hl => ⟨by omega, hl, fun h1 hh => h1 ⟨(hh z (by omega)).h0, (hh z (by omega)).h1⟩, fun h1 => ⟨by omega, hl, fun h2 hh => h2 ⟨(hh z (by omega)).s0, (hh z (by omega)).s1⟩, fun h2 => ⟨by omega, hl, fun h3 hh => h3 (hh z (by omega)).sp, fun h3 => ⟨by omega, z + 1, ⟨by omega, fun i hi => ?_⟩, by omega, by omega⟩⟩⟩⟩, fun hl i hi => hz.2 i (by omega)⟩⟩
  by_cases e : i < z
  · exact hz.2 i e
  · have : i = z := by omega
    subst this; exact ⟨h1.1, h1.2, h2.1, h2.2, h3⟩
theorem rts_cs : SoundS Try.prog (ctrs [rinC, rspC]) := ctrs_sound (by intro x hx; simp at hx; rcases hx with rfl | rfl; exact rin_ok; exact rsp_ok)
theorem rts_ok : rtsC.Ok Try.prog := by
  refine ⟨by kernel_rfl, fun x k hk => ?_⟩
  simp only [rtsC] at hk
  split at hk
  · rename_i n f
    obtain ⟨hf, h1, hk⟩ := hk
    have hh := rts_true (T := tlOf n f) h1
    unfold rtsG at hh
    rw [← hf] at hh
    exact ⟨_, Does.plain (funH_does rts_cs nilS_x nilS_ic mixed hh) trivial, hk⟩
  · exact hk.elim
theorem rde_true (d : De) : rdeG d := by
  rw [rdeG_vc]
  simp only [and_true, true_and, Nat.zero_lt_one, Bool.false_eq_true, false_iff, Classical.not_not]
  exact ⟨fun h => ⟨fun h1 => ⟨fun h2 => ⟨fun h3 => ⟨h.1, h.2, h1.1, h1.2, h2.1, h2.2, h3.1, h3.2⟩, fun h3 => ⟨h3.p0, h3.p1⟩⟩, fun h2 h3 => h2 ⟨h3.l0, h3.l1⟩⟩, fun h1 h3 => h1 ⟨h3.d0, h3.d1⟩⟩, fun h h3 => h ⟨h3.w0, h3.w1⟩⟩
theorem rde_ok : rdeC.Ok Try.prog := by
  refine ⟨by kernel_rfl, fun x k hk => ?_⟩
  simp only [rdeC, vdC] at hk
  split at hk
  · rename_i a b c d
    have hh := rde_true ⟨a, b, c, d⟩
    unfold rdeG at hh
    exact ⟨_, Does.plain (funH_does rin_cs nilS_x nilS_ic mixed hh) trivial, hk⟩
  · exact hk.elim
theorem erA_3 {d : De} {T : Tl} (h : 32 < T.n) : erA d T = 3 := by
  have e : erT T = 3 := by rw [erT, if_pos h]
  rw [erA, if_neg (by omega), e]
theorem erA_1 {d : De} {T : Tl} (h : ¬ 32 < T.n) (h2 : ¬ (okDe d ∧ okTl T)) : erA d T = 1 := by
  by_cases ht : okTl T
  · have e : erT T = 0 := by rw [erT, if_neg h, if_pos ht]
    rw [erA, if_pos e, if_neg fun hd => h2 ⟨hd, ht⟩]
  · have e : erT T = 1 := by rw [erT, if_neg h, if_neg ht]
    rw [erA, if_neg (by omega), e]
theorem erA_0 {d : De} {T : Tl} (h : ¬ 32 < T.n) (hd : okDe d) (ht : okTl T) : erA d T = 0 := by
  have e : erT T = 0 := by rw [erT, if_neg h, if_pos ht]
  rw [erA, if_pos e, if_pos hd]
theorem rst_true {d : De} {T : Tl} (hn : T.n ≤ 1000) : rstG d T := by
  rw [rstG_vc]
  simp only [and_true, true_and, Nat.zero_lt_one, Bool.false_eq_true, false_iff, Classical.not_not, implies_true]
  exact ⟨fun h => (erA_3 (by omega)).symm, fun h => ⟨fun h1 => (erA_1 (by omega) fun x => h1 x.1).symm, fun h1 => ⟨hn, fun h2 => (erA_1 (by omega) fun x => h2 x.2).symm, fun h2 => (erA_0 (by omega) h1 h2).symm⟩⟩⟩
theorem rst_cs : SoundS Try.prog (ctrs [rdeC, rtsC]) := ctrs_sound (by intro x hx; simp at hx; rcases hx with rfl | rfl; exact rde_ok; exact rts_ok)
theorem rst_ok : rstC.Ok Try.prog := by
  refine ⟨by kernel_rfl, fun x k hk => ?_⟩
  simp only [rstC, caC] at hk
  split at hk
  · rename_i a b c d n f
    obtain ⟨hf, hn, hk⟩ := hk
    have hh := rst_true (d := ⟨a, b, c, d⟩) (T := tlOf n f) hn
    unfold rstG at hh
    rw [← hf] at hh
    exact ⟨_, Does.plain (funH_does rst_cs nilS_x nilS_ic mixed hh) trivial, hk⟩
  · exact hk.elim
theorem fiN_mono {p : Nat → Prop} {a : Nat} : ∀ {b : Nat}, a ≤ b → fiN p a ≤ fiN p b
  | 0, h => by have : a = 0 := by omega
               subst this; exact Nat.le_refl _
  | b + 1, h => by
    rcases Nat.lt_or_eq_of_le h with h2 | h2
    · have := fiN_mono (p := p) (a := a) (b := b) (by omega)
      by_cases hp : p b
      · rw [fiN_yes hp]; omega
      · rw [fiN_no hp]; exact this
    · rw [h2]; exact Nat.le_refl _
theorem lk_yes {d : De} {T : Tl} {h : Int} {z : Nat} (hw : inW (T.f z) h d.w) (hz : z < T.n) : lkL d T h (z + 1) = lkL d T h z + (d.d - d.sl) - (T.f z).hi ∧ lkH d T h (z + 1) = lkH d T h z + (d.d - d.sl) - (T.f z).lo := by
  obtain ⟨g1, g2⟩ := win_get hw hz
  have e := fiN_yes (p := fun k => inW (T.f k) h d.w) hw
  unfold lkL lkH
  rw [e]
  simp only [sumJ]
  rw [g2, Int.natCast_add, Int.mul_add]
  simp only [Int.natCast_one, Int.mul_one]
  generalize (d.d - d.sl) * (fiN (fun k => inW (T.f k) h d.w) z : Int) = a
  omega
theorem lk_no {d : De} {T : Tl} {h : Int} {z : Nat} (hw : ¬ inW (T.f z) h d.w) : lkL d T h (z + 1) = lkL d T h z ∧ lkH d T h (z + 1) = lkH d T h z := by
  unfold lkL lkH
  rw [fiN_no (p := fun k => inW (T.f k) h d.w) hw]
  exact ⟨rfl, rfl⟩
theorem lk_bd {d : De} {T : Tl} {h : Int} {z : Nat} (hn : T.n ≤ 100) (hd : okDe d) (ht : okTl T) (hz : z ≤ T.n) : -1000000 ≤ lkL d T h z ∧ lkL d T h z ≤ 1000000 ∧ -1000000 ≤ lkH d T h z ∧ lkH d T h z ≤ 1000000 := by
  have m := fiN_mono (p := fun k => inW (T.f k) h d.w) hz
  have hw := winN_le T h d.w
  have ew : winN T h d.w = fiN (fun k => inW (T.f k) h d.w) T.n := rfl
  have b1 := sum_bd (g := fun j => (winT T h d.w j).lo) (B := 10000) (m := fiN (fun k => inW (T.f k) h d.w) z) fun i hi => by
    have := (win_ok (j := i) ht (by omega : i < winN T h d.w)).sp
    exact ⟨this.a, show (winT T h d.w i).lo ≤ 10000 from Int.le_trans this.b this.c⟩
  have b2 := sum_bd (g := fun j => (winT T h d.w j).hi) (B := 10000) (m := fiN (fun k => inW (T.f k) h d.w) z) fun i hi => by
    have := (win_ok (j := i) ht (by omega : i < winN T h d.w)).sp
    exact ⟨show 0 ≤ (winT T h d.w i).hi from Int.le_trans this.a this.b, this.c⟩
  have d3 := hd.d0
  have d4 := hd.d1
  have d5 := hd.l0
  have d6 := hd.l1
  have b3 := mul_bd (a := d.d - d.sl) (A := 10000) (b := (fiN (fun k => inW (T.f k) h d.w) z : Nat)) (B := 100) (by omega) (by omega) (by omega) (by omega)
  unfold lkL lkH
  omega
theorem rlk_true {d : De} {T : Tl} {h : Int} (hn : T.n ≤ 100) (hd : okDe d) (ht : okTl T) (hh : 0 ≤ h ∧ h ≤ 1048576) : rlkG d T h := by
  rw [rlkG_vc]
  simp only [rI, rE, tt3, tt4, tt5, tt13, tt14, and_true, true_and, Nat.zero_lt_one, implies_true, Int.toNat_natCast]
  have d1 := hd.w0
  have d2 := hd.w1
  have d3 := hd.d0
  have d4 := hd.d1
  have d5 := hd.l0
  have d6 := hd.l1
  refine ⟨⟨0, by omega, rfl, rfl, by simp [lkL, fiN_zero, sumJ], by simp [lkH, fiN_zero, sumJ]⟩, fun z hz => ⟨fun hl => ⟨by omega, hl, by omega, fun h1 => ⟨by omega, hl, fun h2 => ?_, fun h2 => ?_⟩, fun h1 => ?_⟩, fun hl => ?_⟩⟩
  · have hw : inW (T.f z) h d.w := ⟨h1, h2⟩
    have b := lk_bd (h := h) hn hd ht hz
    have b2 := (ht z (by omega)).sp
    have b3 := b2.a
    have b4 := b2.b
    have b5 := b2.c
    obtain ⟨e1, e2⟩ := lk_yes hw (by omega)
    have e3 := fiN_yes (p := fun k => inW (T.f k) h d.w) hw
    have m := fiN_mono (p := fun k => inW (T.f k) h d.w) (by omega : z ≤ T.n)
    have hw := winN_le T h d.w
    have ew : winN T h d.w = fiN (fun k => inW (T.f k) h d.w) T.n := rfl
    exact ⟨by omega, by omega, by omega, hl, by omega, by omega, by omega, hl, by omega, by omega, by omega, z + 1, by omega, by omega, by rw [e3]; omega, by omega, e1.symm, e2.symm⟩
  · have hw : ¬ inW (T.f z) h d.w := fun x => h2 x.2
    obtain ⟨e1, e2⟩ := lk_no hw
    exact ⟨by omega, z + 1, by omega, by omega, by rw [fiN_no (p := fun k => inW (T.f k) h d.w) hw], by omega, e1.symm, e2.symm⟩
  · have hw : ¬ inW (T.f z) h d.w := fun x => h1 x.1
    obtain ⟨e1, e2⟩ := lk_no hw
    exact ⟨by omega, z + 1, by omega, by omega, by rw [fiN_no (p := fun k => inW (T.f k) h d.w) hw], by omega, e1.symm, e2.symm⟩
  · have : z = T.n := by omega
    subst this
    exact ⟨rfl, rfl, rfl⟩
theorem rlk_ok : rlkC.Ok Try.prog := by
  refine ⟨by kernel_rfl, fun x k hk => ?_⟩
  simp only [rlkC] at hk
  split at hk
  · rename_i a b c d n f h
    obtain ⟨hf, h1, h2, h3, h4, hk⟩ := hk
    have hh := rlk_true (d := ⟨a, b, c, d⟩) (T := tlOf n f) h1 h2 h3 h4
    unfold rlkG at hh
    rw [← hf] at hh
    exact ⟨_, Does.plain (funH_does nilS_cs nilS_x nilS_ic mixed hh) (by simp [plainS, plainS.plainL]), hk⟩
  · exact hk.elim
theorem rkp_true (a b : Int) : rkpG a b := by
  rw [rkpG_vc]
  simp only [and_true, true_and, Nat.zero_lt_one, kepI]
  exact ⟨fun h => by rw [if_pos h], fun h => ⟨fun h2 => by rw [if_neg h, if_pos h2], fun h2 => by rw [if_neg h, if_neg h2]⟩⟩
theorem rkp_ok : rkpC.Ok Try.prog := by
  refine ⟨by kernel_rfl, fun x k hk => ?_⟩
  simp only [rkpC] at hk
  split at hk
  · rename_i a b
    have hh := rkp_true a b
    unfold rkpG at hh
    exact ⟨_, Does.plain (funH_does nilS_cs nilS_x nilS_ic mixed hh) trivial, hk⟩
  · exact hk.elim
theorem lack_ke (d : De) (T : Tl) (h : Int) : kepI (lackL d T h) (lackH d T h) = surI (ocL d T h) (ocH d T h) := by
  have e1 : lackH d T h ≤ 0 ↔ keP (ocL d T h) := by unfold lackH keP; omega
  have e2 : 0 < lackL d T h ↔ ¬ keP (ocH d T h) := by unfold lackL keP; omega
  unfold kepI surI
  by_cases h1 : lackH d T h ≤ 0
  · rw [if_pos h1, if_pos (e1.1 h1)]
  · rw [if_neg h1, if_neg (fun x => h1 (e1.2 x))]
    by_cases h2 : 0 < lackL d T h
    · rw [if_pos h2, if_neg (e2.1 h2)]
    · rw [if_neg h2, if_pos (Classical.byContradiction fun x => h2 (e2.2 x))]
theorem erJ_a {d : De} {T : Tl} {h : Int} (he : ¬ erA d T = 0) : erJ d T h = erA d T := by rw [erJ, if_neg he]
theorem rke_true {d : De} {T : Tl} {h : Int} (hn : T.n ≤ 1000) : rkeG d T h := by
  rw [rkeG_vc]
  simp only [rI, rE, and_true, true_and, Nat.zero_lt_one, implies_true, and_self, Classical.not_not]
  refine ⟨hn, fun h1 => ?_, fun h1 => ⟨fun h2 => ?_, fun h2 => ?_⟩⟩
  · have e := erJ_a (h := h) h1
    rw [keI, if_neg (by rw [e]; exact h1), e]; exact ⟨rfl, rfl⟩
  · have e : erJ d T h = 2 := by rw [erJ, if_pos h1, if_neg h2]
    rw [keI, if_neg (by rw [e]; omega), e]; exact ⟨rfl, rfl⟩
  · obtain ⟨k1, k2, k3⟩ := erA_ok h1
    refine ⟨by omega, k3, k2, h2, fun h3 => ?_, fun h3 => ?_⟩
    · have e : erJ d T h = 4 := by rw [erJ, if_pos h1, if_pos h2, if_pos (by omega)]
      rw [keI, if_neg (by rw [e]; omega), e]; exact ⟨rfl, rfl⟩
    · have e : erJ d T h = 0 := by rw [erJ, if_pos h1, if_pos h2, if_neg (by omega)]
      rw [keI, if_pos e, e, lack_ke]; exact ⟨rfl, rfl⟩
theorem rke_cs : SoundS Try.prog (ctrs [rstC, rinC, rlkC, rkpC]) := ctrs_sound (by intro x hx; simp at hx; rcases hx with rfl | rfl | rfl | rfl; exact rst_ok; exact rin_ok; exact rlk_ok; exact rkp_ok)
theorem rke_ok : rkeC.Ok Try.prog := by
  refine ⟨by kernel_rfl, fun x k hk => ?_⟩
  simp only [rkeC, keC] at hk
  split at hk
  · rename_i a b c d n f h
    obtain ⟨hf, h1, hk⟩ := hk
    have hh := rke_true (d := ⟨a, b, c, d⟩) (T := tlOf n f) (h := h) h1
    unfold rkeG at hh
    rw [← hf] at hh
    exact ⟨_, Does.plain (funH_does rke_cs nilS_x nilS_ic mixed hh) (by simp [plainS, plainS.plainL]), hk⟩
  · exact hk.elim
theorem rpa_true {d : De} {l n : Int} (hp : 0 ≤ d.pay ∧ d.pay ≤ 1000000) (hl : l ≤ 100000000) (hn : 0 < l → 1 ≤ n ∧ n ≤ 1000) : rpaG d l n := by
  rw [rpaG_vc]
  simp only [rI, rE, and_true, true_and, Nat.zero_lt_one, payI]
  refine ⟨fun h => by rw [if_pos h], fun h => ?_⟩
  have b := mul_bd (a := l) (A := 100000000) (by omega) hl hp.1 hp.2
  have hn := hn (by omega)
  have := tdiv_bd (a := l * d.pay + n - 1) (b := n) (by omega) hn.1
  exact ⟨by omega, by omega, by omega, by omega, by omega, by rw [if_neg h]⟩
theorem rpa_ok : rpaC.Ok Try.prog := by
  refine ⟨by kernel_rfl, fun x k hk => ?_⟩
  simp only [rpaC] at hk
  split at hk
  · rename_i a b c d l n
    obtain ⟨h1, h2, h3, hk⟩ := hk
    have hh := rpa_true (d := ⟨a, b, c, d⟩) h1 h2 h3
    unfold rpaG at hh
    exact ⟨_, Does.plain (funH_does nilS_cs nilS_x nilS_ic mixed hh) trivial, hk⟩
  · exact hk.elim
theorem lack_pay (o : Oc) : payI o.pay (o.must * o.by' - o.sum) o.by' = dueI o := by
  unfold payI dueI
  by_cases h : keP o
  · rw [if_pos h, if_pos (by unfold keP at h; omega)]
  · rw [if_neg h, if_neg (by unfold keP at h; omega)]
theorem rdu_true {d : De} {T : Tl} {h : Int} (hn : T.n ≤ 1000) : rduG d T h := by
  rw [rduG_vc]
  simp only [rI, rE, and_true, true_and, Nat.zero_lt_one, implies_true, and_self, Classical.not_not]
  refine ⟨hn, fun h1 => by rw [dL, dH, if_neg h1, if_neg h1]; exact ⟨rfl, rfl⟩, fun h1 => ?_⟩
  obtain ⟨a1, a2, a3⟩ := erJ_ok h1
  obtain ⟨k1, k2, k3⟩ := erA_ok a1
  obtain ⟨o1, o2⟩ := ocL_ok (h := h) (by omega : T.n ≤ 100) k3 k2
  have hw := winN_le T h d.w
  have b1 := mul_bd o1.m0 o1.m1 o1.b0 o1.b1
  have b2 := mul_bd o2.m0 o2.m1 o2.b0 o2.b1
  have s1 := o1.s0
  have s2 := o2.s0
  have ew : ((winN T h d.w : Nat) : Int) ≤ 1000 := by omega
  have ew2 : 1 ≤ ((winN T h d.w : Nat) : Int) := by omega
  have p1 := lack_pay (ocH d T h)
  have p2 := lack_pay (ocL d T h)
  refine ⟨by omega, k3, k2, a2, ⟨k3.p0, k3.p1⟩, by unfold lackL; omega, fun _ => ⟨ew2, ew⟩, ⟨k3.p0, k3.p1⟩, by unfold lackH; omega, fun _ => ⟨ew2, ew⟩, ?_, ?_, h1.symm⟩
  · rw [dL, if_pos h1]; exact p1
  · rw [dH, if_pos h1]; exact p2
theorem rdu_cs : SoundS Try.prog (ctrs [rkeC, rlkC, rpaC]) := ctrs_sound (by intro x hx; simp at hx; rcases hx with rfl | rfl | rfl; exact rke_ok; exact rlk_ok; exact rpa_ok)
theorem rdu_ok : rduC.Ok Try.prog := by
  refine ⟨by kernel_rfl, fun x k hk => ?_⟩
  simp only [rduC, deC] at hk
  split at hk
  · rename_i a b c d n f h
    obtain ⟨hf, h1, hk⟩ := hk
    have hh := rdu_true (d := ⟨a, b, c, d⟩) (T := tlOf n f) (h := h) h1
    unfold rduG at hh
    rw [← hf] at hh
    exact ⟨_, Does.plain (funH_does rdu_cs nilS_x nilS_ic mixed hh) (by simp [plainS, plainS.plainL]), hk⟩
  · exact hk.elim
theorem cmpK_lt (a b : Int × Int) : cmpK a b < 0 ↔ ltK a b := by
  unfold cmpK orI cmpI ltK
  repeat' split
  all_goals omega
theorem ver_ke {d : De} {T : Tl} {i : Nat} (h : erA d T = 0) (hi : i < T.n) : keI d T (T.f i).h = (verK d T i).1 := by
  obtain ⟨k1, k2, k3⟩ := erA_ok h
  have t := k2 i hi
  have w0 := k3.w0
  have g := (win_get (T := T) (h := (T.f i).h) (p := d.w) (z := i) ⟨by omega, Int.le_refl _⟩ hi).1
  have e : erJ d T (T.f i).h = 0 := by rw [erJ, if_pos h, if_pos ⟨t.h0, t.h1⟩, if_neg (by omega)]
  rw [keI, if_pos e]; rfl
theorem sur_bd (a b : Oc) : 0 ≤ surI a b ∧ surI a b ≤ 2 := by
  unfold surI
  repeat' split
  all_goals omega
theorem ws_y {d : De} {T : Tl} {z : Nat} (h : z = 0 ∨ ltK (verK d T z) (wsK d T z)) : wsK d T (z + 1) = verK d T z := by
  show leastJ (verK d T) (z + 1) = _
  cases z with
  | zero => exact least_in (.inl rfl)
  | succ z =>
    rcases h with h | h
    · omega
    · exact least_in (.inr ((cmpK_lt _ _).2 h))
theorem ws_n {d : De} {T : Tl} {z : Nat} (h0 : z ≠ 0) (h : ¬ ltK (verK d T z) (wsK d T z)) : wsK d T (z + 1) = wsK d T z := by
  show leastJ (verK d T) (z + 1) = _
  cases z with
  | zero => exact absurd rfl h0
  | succ z => exact least_out (by omega) fun x => h ((cmpK_lt _ _).1 x)
theorem rwo_true {d : De} {T : Tl} (hn : T.n ≤ 1000) : rwoG d T := by
  rw [rwoG_vc]
  simp only [rI, rE, tt3, tt4, tt5, tt13, tt14, and_true, true_and, Nat.zero_lt_one, implies_true, and_self, Classical.not_not, Int.toNat_natCast]
  refine ⟨hn, fun h => ?_, fun h => ⟨fun h1 => ?_, fun h1 => ⟨⟨0, by omega, rfl, rfl, rfl⟩, fun z hz => ⟨fun hl => ?_, fun hl => ?_⟩⟩⟩⟩
  · have e : erW d T = erA d T := by rw [erW, if_neg h]
    rw [woH, woK, e, if_neg h, if_neg h]; exact ⟨rfl, rfl, rfl⟩
  · have e : erW d T = 4 := by rw [erW, if_pos h, if_pos (by omega)]
    rw [woH, woK, e]; exact ⟨rfl, rfl, rfl⟩
  · have ek := ver_ke (i := z) h (by omega)
    have e2 : (T.f z).h = (verK d T z).2 := rfl
    have bd := sur_bd (ocL d T (T.f z).h) (ocH d T (T.f z).h)
    have e3 : (verK d T z).1 = surI (ocL d T (T.f z).h) (ocH d T (T.f z).h) := rfl
    have e0 : z = 0 → (wsK d T z).1 = 3 := fun e => by subst e; rfl
    rw [ek]
    simp only [e2]
    refine ⟨by omega, hl, hn, fun h2 => ?_, fun h2 => ⟨fun h3 => ⟨by omega, hl, fun h4 => ?_, fun h4 => ?_⟩, fun h3 => ?_⟩⟩
    · rw [← e2]
      refine ⟨by omega, hl, by omega, z + 1, by omega, by omega, ?_, ?_, by omega⟩ <;> rw [ws_y (.inr (.inl h2))]
      exact e2
    · rw [← e2]
      refine ⟨by omega, hl, by omega, z + 1, by omega, by omega, ?_, ?_, by omega⟩ <;> rw [ws_y (.inr (.inr ⟨h3, h4⟩))]
      exact e2
    · have hz0 : z ≠ 0 := fun e => by have := e0 e; omega
      have := ws_n hz0 (fun x : ltK (verK d T z) (wsK d T z) => x.elim h2 fun y => h4 y.2)
      refine ⟨by omega, z + 1, by omega, by omega, ?_, ?_, by omega⟩ <;> rw [this]
    · have hz0 : z ≠ 0 := fun e => by have := e0 e; omega
      have := ws_n hz0 (fun x : ltK (verK d T z) (wsK d T z) => x.elim h2 fun y => h3 y.1)
      refine ⟨by omega, z + 1, by omega, by omega, ?_, ?_, by omega⟩ <;> rw [this]
  · have : z = T.n := by omega
    subst this
    have e : erW d T = 0 := by rw [erW, if_pos h, if_neg (by omega)]
    have e1 : wsK d T T.n = leastJ (verK d T) T.n := by
      cases hh : T.n with
      | zero => omega
      | succ m => rfl
    rw [woH, woK, e, if_pos rfl, if_pos rfl, e1]; exact ⟨rfl, rfl, rfl⟩
theorem rwo_cs : SoundS Try.prog (ctrs [rstC, rkeC]) := ctrs_sound (by intro x hx; simp at hx; rcases hx with rfl | rfl; exact rst_ok; exact rke_ok)
theorem rwo_ok : rwoC.Ok Try.prog := by
  refine ⟨by kernel_rfl, fun x k hk => ?_⟩
  simp only [rwoC, woC] at hk
  split at hk
  · rename_i a b c d n f
    obtain ⟨hf, h1, hk⟩ := hk
    have hh := rwo_true (d := ⟨a, b, c, d⟩) (T := tlOf n f) h1
    unfold rwoG at hh
    rw [← hf] at hh
    exact ⟨_, Does.plain (funH_does rwo_cs nilS_x nilS_ic mixed hh) (by simp [plainS, plainS.plainL]), hk⟩
  · exact hk.elim
theorem rte_true {T : Tl} {st a b : Int} (hn : T.n ≤ 1000) : rteG T st a b := by
  rw [rteG_vc]
  simp only [rI, rE, tt3, tt4, tt5, tt13, tt14, and_true, true_and, Nat.zero_lt_one, implies_true, and_self, Classical.not_not, Int.toNat_natCast, Bool.false_eq_true, false_iff, true_iff]
  have nx : ∀ {z : Nat}, (∀ i, i < z → ¬ ((T.f i).s = st ∧ a ≤ (T.f i).h ∧ (T.f i).h ≤ b)) → ¬ ((T.f z).s = st ∧ a ≤ (T.f z).h ∧ (T.f z).h ≤ b) → ∀ i, i < z + 1 → ¬ ((T.f i).s = st ∧ a ≤ (T.f i).h ∧ (T.f i).h ≤ b) := fun {z} h1 h2 i hi => by
    by_cases e : i < z
    · exact h1 i e
    · have : i = z := by omega
      subst this; exact h2
  refine ⟨⟨0, ⟨by omega, fun i hi => by omega⟩, rfl⟩, fun z hz => ⟨fun hl => ⟨by omega, hl, fun h1 => ⟨by omega, hl, fun h2 => ⟨z, by omega, h1, h2⟩, fun h2 => ⟨by omega, z + 1, ⟨by omega, nx hz.2 fun x => h2 x.2⟩, by omega, by omega⟩⟩, fun h1 => ⟨by omega, z + 1, ⟨by omega, nx hz.2 fun x => h1 x.1⟩, by omega, by omega⟩⟩, fun hl => ?_⟩⟩
  rintro ⟨i, hi, h⟩
  exact hz.2 i (by omega) h
theorem rte_ok : rteC.Ok Try.prog := by
  refine ⟨by kernel_rfl, fun x k hk => ?_⟩
  simp only [rteC] at hk
  split at hk
  · rename_i n f st a b
    obtain ⟨hf, h1, hk⟩ := hk
    have hh := rte_true (T := tlOf n f) (st := st) (a := a) (b := b) h1
    unfold rteG at hh
    rw [← hf] at hh
    exact ⟨_, Does.plain (funH_does rin_cs nilS_x nilS_ic mixed hh) trivial, hk⟩
  · exact hk.elim
end Go.Proofs.Ytgidaaogknikoaa

set_option maxRecDepth 100000
namespace Go.Proofs.Ytgidaaogknikoaa
open Go Go.Lg
attribute [local irreducible] funS bodyH
theorem ltK_irr (a : Int × Int) : ¬ ltK a a := by unfold ltK; omega
theorem ltK_trans {a b c : Int × Int} (h : ltK a b) (h2 : ltK b c) : ltK a c := by unfold ltK at *; omega
theorem ltK_eq {a b : Int × Int} (h : ¬ ltK a b) (h2 : ¬ ltK b a) : a = b := by
  unfold ltK at *
  have : a.1 = b.1 ∧ a.2 = b.2 := by omega
  exact Prod.ext this.1 this.2
theorem least_min {v : Nat → Int × Int} : ∀ {m : Nat}, 0 < m → (∃ i, i < m ∧ leastJ v m = v i) ∧ ∀ j, j < m → ¬ ltK (v j) (leastJ v m)
  | 0, h => by omega
  | m + 1, _ => by
    by_cases hm : m = 0 ∨ cmpK (v m) (leastJ v m) < 0
    · rw [least_in hm]
      refine ⟨⟨m, by omega, rfl⟩, fun j hj => ?_⟩
      by_cases e : j = m
      · subst e; exact ltK_irr _
      · rcases hm with hm | hm
        · omega
        · have ih := (least_min (v := v) (m := m) (by omega)).2 j (by omega)
          exact fun h => ih (ltK_trans h ((cmpK_lt _ _).1 hm))
    · have h0 : ¬ m = 0 := fun h => hm (.inl h)
      have h1 : ¬ cmpK (v m) (leastJ v m) < 0 := fun h => hm (.inr h)
      rw [least_out h0 h1]
      obtain ⟨⟨i, hi, he⟩, h2⟩ := least_min (v := v) (m := m) (by omega)
      refine ⟨⟨i, by omega, he⟩, fun j hj => ?_⟩
      by_cases e : j = m
      · subst e; exact fun h => h1 ((cmpK_lt _ _).2 h)
      · exact h2 j (by omega)
theorem isFi_ex {T : Tl} {st p a : Int} (ht : okTl T) (hp : 1 ≤ p) (ha : 0 ≤ a) : ∃ u, isFi T st p a u := by
  have key : ∀ k : Nat, gapP T st p (a + k) → ∃ u, isFi T st p a u := by
    intro k
    induction k using Nat.strongRecOn with
    | _ k ih =>
      intro hk
      by_cases hex : ∃ j : Nat, j < k ∧ gapP T st p (a + j)
      · obtain ⟨j, hj, hg⟩ := hex
        exact ih j hj hg
      · refine ⟨a + k, by omega, hk, fun x h1 h2 hg => hex ⟨(x - a).toNat, by omega, ?_⟩⟩
        have : a + ((x - a).toNat : Int) = x := by omega
        rw [this]; exact hg
  refine key (1048576 + p).toNat fun i hi hs hw => ?_
  have := (ht i hi).h1
  have := hw.1
  omega
theorem untI_is {T : Tl} {st p a : Int} (ht : okTl T) (hp : 1 ≤ p) (ha : 0 ≤ a) : isFi T st p a (untI T st p a) := Classical.epsilon_spec (p := isFi T st p a) (isFi_ex ht hp ha)
theorem gp_at {T : Tl} {st p lo hi : Int} {j : Nat} (hj : j < gpN T st p lo hi) : ∃ s : Nat, (s : Int) < st ∧ untI T s p (lo + p - 1) ≤ hi ∧ gpK T st p lo hi j = (untI T s p (lo + p - 1), (s : Int)) := by
  have := fi_mem (p := gpP T p lo hi) (m := st.toNat) hj
  exact ⟨(gpL T st p lo hi).getD j 0, by have := this.1; show (((fiL (gpP T p lo hi) st.toNat).getD j 0 : Nat) : Int) < st; omega, this.2, rfl⟩
theorem gp_has {T : Tl} {st p lo hi : Int} {s : Nat} (hs : (s : Int) < st) (h : untI T s p (lo + p - 1) ≤ hi) : ∃ j, j < gpN T st p lo hi ∧ gpK T st p lo hi j = (untI T s p (lo + p - 1), (s : Int)) := by
  have hw : gpP T p lo hi s := h
  obtain ⟨g1, g2⟩ := fi_get (m := st.toNat) hw (by omega)
  refine ⟨fiN (gpP T p lo hi) s, g1, ?_⟩
  unfold gpK gpL
  rw [g2]
theorem mi_first {T : Tl} {st p lo hi : Int} (ht : erT T = 0) (hm : okMi st p lo hi) {h : Int} {s : Nat} (h1 : lo + p - 1 ≤ h) (h2 : h ≤ hi) (hs : (s : Int) < st) (hg : gapP T s p h) (hb : ∀ x : Int, lo + p - 1 ≤ x → x < h → ∀ s : Nat, (s : Int) < st → ¬ gapP T s p x) (hc : ∀ s' : Nat, s' < s → ¬ gapP T s' p h) :
    miH T st p lo hi = h ∧ miS T st p lo hi = s ∧ erM T st p lo hi = 0 := by
  have m3 := hm.p0
  have m5 := hm.h.a
  have eu : untI T s p (lo + p - 1) = h := untI_eq ⟨h1, hg, fun x x1 x2 => hb x x1 x2 s hs⟩
  obtain ⟨j, j1, j2⟩ := gp_has (hi := hi) hs (by rw [eu]; exact h2)
  rw [eu] at j2
  obtain ⟨⟨i, i1, i2⟩, i3⟩ := least_min (v := gpK T st p lo hi) (m := gpN T st p lo hi) (by omega)
  have l1 := i3 j j1
  rw [j2] at l1
  have l2 : ¬ ltK (leastJ (gpK T st p lo hi) (gpN T st p lo hi)) (h, (s : Int)) := by
    rw [i2]
    obtain ⟨s', q1, q2, q3⟩ := gp_at i1
    rw [q3]
    have f := untI_is (T := T) (st := s') (p := p) (a := lo + p - 1) (erT_ok ht).2 m3 (by omega)
    rintro (h3 | ⟨h3, h4⟩)
    · exact hb _ f.l h3 s' q1 f.g
    · have h3 : untI T s' p (lo + p - 1) = h := h3
      have h4 : (s' : Int) < (s : Int) := h4
      have := f.g
      rw [h3] at this
      exact hc s' (by omega) this
  have e := ltK_eq l2 l1
  have e0 : erM T st p lo hi = 0 := by rw [erM, if_pos ht, if_pos hm, if_neg (by omega)]
  rw [miH, miS, e0, if_pos rfl, if_pos rfl, e]
  exact ⟨rfl, rfl, rfl⟩
theorem mi_none {T : Tl} {st p lo hi : Int} (ht : erT T = 0) (hm : okMi st p lo hi) (hb : ∀ x : Int, lo + p - 1 ≤ x → x ≤ hi → ∀ s : Nat, (s : Int) < st → ¬ gapP T s p x) :
    miH T st p lo hi = 0 ∧ miS T st p lo hi = 0 ∧ erM T st p lo hi = 4 := by
  have m3 := hm.p0
  have m5 := hm.h.a
  have e : gpN T st p lo hi = 0 := by
    rcases Nat.eq_zero_or_pos (gpN T st p lo hi) with h | h
    · exact h
    · obtain ⟨s', q1, q2, q3⟩ := gp_at h
      have f := untI_is (T := T) (st := s') (p := p) (a := lo + p - 1) (erT_ok ht).2 m3 (by omega)
      exact absurd f.g (hb _ f.l q2 s' q1)
  have e0 : erM T st p lo hi = 4 := by rw [erM, if_pos ht, if_pos hm, if_pos e]
  rw [miH, miS, e0]
  exact ⟨rfl, rfl, rfl⟩
theorem tes_gap {T : Tl} {st p h : Int} : tesP T st (h - p + 1) h ↔ ¬ gapP T st p h := by
  constructor
  · rintro ⟨i, hi, h1, h2, h3⟩ hg
    exact hg i hi h1 ⟨by omega, h3⟩
  · intro hg
    apply Classical.byContradiction
    intro hn
    exact hg fun i hi hs hw => hn ⟨i, hi, hs, by have := hw.1; omega, hw.2⟩
theorem rmi_true {T : Tl} {st p lo hi : Int} (hn : T.n ≤ 1000) : rmiG T st p lo hi := by
  rw [rmiG_vc]
  simp only [rI, rE, tt3, tt4, tt5, tt13, tt14, and_true, true_and, Nat.zero_lt_one, implies_true, and_self, Classical.not_not, Int.toNat_natCast]
  have bad : erT T = 0 → ¬ okMi st p lo hi → 0 = miH T st p lo hi ∧ 0 = miS T st p lo hi ∧ 2 = erM T st p lo hi := fun h h2 => by
    have e : erM T st p lo hi = 2 := by rw [erM, if_pos h, if_neg h2]
    rw [miH, miS, e]; exact ⟨rfl, rfl, rfl⟩
  have badT : ∀ n : Int, erT T = n → n ≠ 0 → 0 = miH T st p lo hi ∧ 0 = miS T st p lo hi ∧ n = erM T st p lo hi := fun n h h2 => by
    have e : erM T st p lo hi = n := by rw [erM, if_neg (by rw [h]; exact h2), h]
    rw [miH, miS, e, if_neg h2, if_neg h2]; exact ⟨rfl, rfl, rfl⟩
  refine ⟨fun h => badT 3 (by rw [erT, if_pos (by omega)]) (by omega), fun h => ⟨hn, fun h1 => badT 1 (by rw [erT, if_neg (by omega), if_neg h1]) (by omega), fun h1 => ?_⟩⟩
  have h0 : erT T = 0 := by rw [erT, if_neg (by omega), if_pos h1]
  refine ⟨fun h2 => bad h0 fun x => h2 ⟨x.s0, x.s1⟩, fun h2 => ⟨fun h3 => bad h0 fun x => h3 ⟨x.p0, x.p1⟩, fun h3 => ⟨fun h4 => bad h0 fun x => by have := x.h.a; omega, fun h4 => ⟨fun h5 => bad h0 fun x => by have := x.h.b; omega, fun h5 => ⟨fun h6 => bad h0 fun x => by have := x.h.c; omega, fun h6 => ?_⟩⟩⟩⟩⟩
  have hm : okMi st p lo hi := ⟨h2.1, h2.2, h3.1, h3.2, ⟨by omega, by omega, by omega⟩⟩
  refine ⟨by omega, by omega, ⟨(lo + p - 1).toNat, ⟨by omega, by omega, fun x x1 x2 => by omega⟩, by omega⟩, fun z hz => ⟨fun hl => ⟨⟨⟨by omega, fun s hs => by omega⟩, rfl⟩, fun y hy => ⟨fun hl2 => ?_, fun hl2 => ?_⟩⟩, fun hl => ?_⟩⟩
  · obtain ⟨y1, y2⟩ := y
    obtain ⟨⟨g1, g2⟩, g3⟩ := hy
    simp only at g1 g2 g3 hl2 ⊢
    subst g3
    refine ⟨by omega, by omega, hn, fun ht => ?_, fun ht => ⟨by omega, ⟨⟨by omega, fun s hs => ?_⟩, rfl⟩, by omega, by omega⟩⟩
    · obtain ⟨e1, e2, e3⟩ := mi_first h0 hm hz.1 hl hl2 (Classical.byContradiction fun x => ht (tes_gap.2 x)) hz.2.2 g2
      exact ⟨e1.symm, e2.symm, e3.symm⟩
    · by_cases e : s < y2
      · exact g2 s e
      · have : s = y2 := by omega
        subst this; exact tes_gap.1 ht
  · obtain ⟨y1, y2⟩ := y
    obtain ⟨⟨g1, g2⟩, g3⟩ := hy
    simp only at g1 g2 g3 hl2 ⊢
    subst g3
    refine ⟨by omega, y1 + 1, ⟨by omega, by omega, fun x x1 x2 s hs => ?_⟩, by omega, by omega⟩
    by_cases e : x < y1
    · exact hz.2.2 x x1 e s hs
    · have : x = y1 := by omega
      subst this; exact g2 s (by omega)
  · obtain ⟨e1, e2, e3⟩ := mi_none h0 hm fun x x1 x2 s hs => hz.2.2 x x1 (by omega) s hs
    exact ⟨e1.symm, e2.symm, e3.symm⟩
theorem rmi_cs : SoundS Try.prog (ctrs [rtsC, rinC, rteC]) := ctrs_sound (by intro x hx; simp at hx; rcases hx with rfl | rfl | rfl; exact rts_ok; exact rin_ok; exact rte_ok)
theorem rmi_ok : rmiC.Ok Try.prog := by
  refine ⟨by kernel_rfl, fun x k hk => ?_⟩
  simp only [rmiC, miC] at hk
  split at hk
  · rename_i n f st p lo hi
    obtain ⟨hf, h1, hk⟩ := hk
    have hh := rmi_true (T := tlOf n f) (st := st) (p := p) (lo := lo) (hi := hi) h1
    unfold rmiG at hh
    rw [← hf] at hh
    exact ⟨_, Does.plain (funH_does rmi_cs nilS_x nilS_ic mixed hh) (by simp [plainS, plainS.plainL]), hk⟩
  · exact hk.elim
end Go.Proofs.Ytgidaaogknikoaa
