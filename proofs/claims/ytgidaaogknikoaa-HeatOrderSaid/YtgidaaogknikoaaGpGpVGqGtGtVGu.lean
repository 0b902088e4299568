import Derived.Test.YtgidaaogknikoaaGjGkGl1
set_option linter.unusedVariables false
set_option linter.unusedSimpArgs false
namespace Go.Proofs.Ytgidaaogknikoaa
open Go Go.Lg
attribute [local irreducible] bodyH funS
structure Bs where
  n : Nat
  f : Nat → Int
def Bs.sv (b : Bs) : SV := .lst 1 b.n fun i => .int .u16 (b.f i)
structure okBs (b : Bs) : Prop where
  n : 1 ≤ b.n
  f : ∀ i, i < b.n → 0 ≤ b.f i ∧ b.f i < 65536
open Classical in
noncomputable def sumW (p : Nat → Prop) (g : Nat → Int) : Nat → Int
  | 0 => 0
  | m + 1 => if p m then sumW p g m + g m else sumW p g m
end Go.Proofs.Ytgidaaogknikoaa

set_option maxRecDepth 100000
namespace Go.Proofs.Ytgidaaogknikoaa
open Go Go.Lg
end Go.Proofs.Ytgidaaogknikoaa 

set_option maxRecDepth 100000
namespace Go.Proofs.Ytgidaaogknikoaa
open Go Go.Lg
attribute [local irreducible] funS bodyH
theorem sumW_yes {p : Nat → Prop} {g : Nat → Int} {m : Nat} (h : p m) : sumW p g (m + 1) = sumW p g m + g m := by simp only [sumW]; rw [if_pos h]
theorem sumW_no {p : Nat → Prop} {g : Nat → Int} {m : Nat} (h : ¬ p m) : sumW p g (m + 1) = sumW p g m := by simp only [sumW]; rw [if_neg h]
theorem sumW_J {T : Tl} {h p : Int} (f : Tst → Int) : ∀ {m : Nat}, m ≤ T.n → sumW (fun k => inW (T.f k) h p) (fun k => f (T.f k)) m = sumJ (fun j => f (winT T h p j)) (fiN (fun k => inW (T.f k) h p) m)
  | 0, _ => rfl
  | m + 1, hm => by
    have ih := sumW_J (T := T) (h := h) (p := p) f (m := m) (by omega)
    by_cases hw : inW (T.f m) h p
    · rw [sumW_yes (p := fun k => inW (T.f k) h p) hw, fiN_yes (p := fun k => inW (T.f k) h p) hw]
      simp only [sumJ]
      rw [(win_get hw (by omega)).2, ih]
    · rw [sumW_no (p := fun k => inW (T.f k) h p) hw, fiN_no (p := fun k => inW (T.f k) h p) hw, ih]
theorem modN {z n : Nat} : ((z : Int).tmod (n : Int)) = ((z % n : Nat) : Int) := (Int.ofNat_tmod z n).symm
end Go.Proofs.Ytgidaaogknikoaa

namespace Go.Proofs.Ytgidaaogknikoaa
open Go Go.Lg
attribute [local irreducible] bodyH funS
def zT : Tl := ⟨0, fun _ => ⟨0, 0, 0, 0⟩⟩
noncomputable def deM : Ctr := ⟨16, fun args k => match args with
  | [.agg [.int .i64 a, .int .i64 b, .int .i64 c, .int .i64 d], .val (.slice none 0 0), .int .i64 h] => k (.tup [.agg [i6 (dL ⟨a, b, c, d⟩ zT h), i6 (dH ⟨a, b, c, d⟩ zT h)], i6 (erJ ⟨a, b, c, d⟩ zT h)])
  | x => deC.c x k⟩
noncomputable def woM : Ctr := ⟨18, fun args k => match args with
  | [.agg [.int .i64 a, .int .i64 b, .int .i64 c, .int .i64 d], .val (.slice none 0 0)] => k (.tup [i6 (woH ⟨a, b, c, d⟩ zT), i6 (woK ⟨a, b, c, d⟩ zT), i6 (erW ⟨a, b, c, d⟩ zT)])
  | x => woC.c x k⟩
noncomputable def miM : Ctr := ⟨20, fun args k => match args with
  | [.val (.slice none 0 0), .int .i64 st, .int .i64 p, .agg [.int .i64 lo, .int .i64 hi]] => k (.tup [i6 (miH zT st p lo hi), i6 (miS zT st p lo hi), i6 (erM zT st p lo hi)])
  | x => miC.c x k⟩
structure TsP where
  d : De
  T : Tl
  p : Int
  s : Int
  u : Int
def tesQ (T : Tl) (s u p : Int) (m : Nat) : Prop := ∃ i, i < m ∧ (T.f i).s = s ∧ (T.f i).h ≤ u ∧ u - p < (T.f i).h
structure TsP.ok (x : TsP) : Prop where
  n : x.T.n ≤ 100
  p : 0 ≤ x.p ∧ x.p ≤ 1100000
  u : -1100000 ≤ x.u ∧ x.u ≤ 1100000
noncomputable def TsP.X (x : TsP) : XS := mkX [vr 4 x.d.sv, vr 1 x.T.sv, vr 1 (i6 x.p)]
theorem rdTs (a : List SV) (X : XS) (k : TsP → Prop) (h : (match a with
    | [.int .i64 s, .int .i64 u, .ptr 1 0 0, .ptr 2 0 0] => (match X.row 0, X.row 1, X.row 2 with
      | some R0, some R1, some R2 => (match R0.f 0, R1.f 0, R2.f 0 with
        | .agg [.int .i64 a, .int .i64 b, .int .i64 c, .int .i64 d], .lst 4 n f, .int .i64 p => SV.lst 4 n f = (tlOf n f).sv ∧ k ⟨⟨a, b, c, d⟩, tlOf n f, p, s, u⟩
        | _, _, _ => False)
      | _, _, _ => False)
    | _ => False)) : ∃ s, k s := by
  split at h
  · split at h
    · split at h
      · exact ⟨_, h.2⟩
      · exact h.elim
    · exact h.elim
  · exact h.elim
noncomputable def tesC : SCtr where
  f := 27
  p := TsP
  pre := TsP.ok
  X0 := TsP.X
  args := fun x => [i6 x.s, i6 x.u, .ptr 1 0 0, .ptr 2 0 0]
  res := fun x => .dec (tesQ x.T x.s x.u x.p x.T.n) (Classical.propDecidable _)
  rd := fun a X k => match a with
    | [.int .i64 s, .int .i64 u, .ptr 1 0 0, .ptr 2 0 0] => (match X.row 0, X.row 1, X.row 2 with
      | some R0, some R1, some R2 => (match R0.f 0, R1.f 0, R2.f 0 with
        | .agg [.int .i64 a, .int .i64 b, .int .i64 c, .int .i64 d], .lst 4 n f, .int .i64 p => SV.lst 4 n f = (tlOf n f).sv ∧ k ⟨⟨a, b, c, d⟩, tlOf n f, p, s, u⟩
        | _, _, _ => False)
      | _, _, _ => False)
    | _ => False
  rdOK := rdTs
noncomputable def tesG (x : TsP) : Prop := stH Try.prog (ctrs []) noX (ictrs []) (oneL 0 (natH (fun z => z ≤ x.T.n) (fun z => x.T.n - z) 3
  (fun z => mkF 46 [(0, i6 x.s), (1, i6 x.u), (2, .ptr 1 0 0), (3, .ptr 2 0 0), (7, .dec (tesQ x.T x.s x.u x.p z) (Classical.propDecidable _)), (8, i6 z)]) (fun _ => x.X) fun _ => none)) noL 27 x.X [i6 x.s, i6 x.u, .ptr 1 0 0, .ptr 2 0 0] (.dec (tesQ x.T x.s x.u x.p x.T.n) (Classical.propDecidable _))
def rotT (T : Tl) (a : Int) : Tl := ⟨T.n, fun k => T.f ((k + a.toNat) % T.n)⟩
noncomputable def hoX (d : De) (T : Tl) (p lo hi : Int) (l : List (Option SRow)) : XS := mkX (vr 4 d.sv :: vr 1 T.sv :: vr 1 (i6 p) :: vr 2 (.agg [i6 lo, i6 hi]) :: l)
noncomputable def hoF (h st a : Int) (l : List (Nat × SV)) : FS := mkF 246 ((2, i6 h) :: (3, i6 st) :: (6, .int .u16 a) :: (7, .ptr 0 0 0) :: (8, .ptr 1 0 0) :: (11, .ptr 2 0 0) :: (12, .ptr 3 0 0) :: l)
noncomputable def msO (t : FS) : Ms := match sget 246 t 15 with
  | .sl r _ _ => [some r]
  | _ => []
noncomputable def hoL (d : De) (T : Tl) (h st p lo hi a : Int) : Nat → Option HSpec :=
  twoL 1007 { toLSpec := { σ := Nat, inv := fun z => z < T.n, μ := fun _ => 0, nr := 4, ms := fun t _ => msO t
                           t := fun z => hoF h st a [(15, .sl 4 0 (z + 1)), (16, i6 z)]
                           X := fun z => hoX d T p lo hi [rw' 4 (z + 1) fun k => ((rotT T a).f k).sv]
                           rd := fun t _ k => match sget 246 t 16 with
                             | .int _ z => k z.toNat
                             | _ => False
                           rdOK := rdI }
              D := [(1, 1), (6, 1)], E := [(12, 0)]
              par := some ⟨fun t _ k => match sget 246 t 16 with
                | .int _ z => k z.toNat
                | _ => False, rdI⟩
              kinv := fun y z => z = y } <|
  twoL 0 { toLSpec := { σ := Nat, inv := fun z => 1 ≤ z ∧ z ≤ T.n, μ := fun z => T.n - z, nr := 4, ms := fun t _ => msO t
                        t := fun z => hoF h st a [(15, .sl 4 0 z), (16, i6 z)]
                        X := fun z => hoX d T p lo hi [rw' 4 z fun k => ((rotT T a).f k).sv]
                        rd := fun _ _ k => ∃ z, k z, rdOK := fun _ _ _ h => h, peel := some T.n } } <|
  twoL 2 (natH (fun z => z ≤ (miS T st p lo hi).toNat) (fun z => (miS T st p lo hi).toNat - z) 4 (fun z => mkF 246 [(11, .ptr 2 0 0), (12, .ptr 3 0 0), (27, i6 (miH T st p lo hi)), (28, i6 (miS T st p lo hi)), (33, .clo (.func 27) [] [.ptr 1 0 0, .ptr 2 0 0]), (34, i6 z)]) (fun _ => hoX d T p lo hi []) fun _ => none) <|
  oneL 4 (natH (fun z => z ≤ st.toNat) (fun z => st.toNat - z) 4 (fun z => mkF 246 [(3, i6 st), (12, .ptr 3 0 0), (27, i6 (miH T st p lo hi)), (28, i6 (miS T st p lo hi)), (33, .clo (.func 27) [] [.ptr 1 0 0, .ptr 2 0 0]), (35, i6 (lo + p - 1 + a)), (36, i6 z)]) (fun _ => hoX d T p lo hi []) fun _ => none)
noncomputable def csO : CSpec := ctrsQ [tesC] (ctrs [deM, woM, miM, aliveC])
noncomputable def hoG (d : De) (T : Tl) (h st p lo hi a : Int) : Prop := funH Try.prog csO noX (ictrs []) (hoL d T h st p lo hi a) noL 8 [d.sv, T.sv, i6 h, i6 st, i6 p, .agg [i6 lo, i6 hi], .int .u16 a] (.bool true)
end Go.Proofs.Ytgidaaogknikoaa

set_option maxRecDepth 100000
namespace Go.Proofs.Ytgidaaogknikoaa
open Go Go.Lg
theorem tesG_vc (x : TsP) : tesG x =
 ((∀ (i : Nat), i < x.T.1 → True ∧ True ∧ True ∧ True ∧ True) ∧ (∃ (z : Nat), z ≤ x.T.1 ∧ x.4 = x.4 ∧ x.5 = x.5 ∧ rE (0 : Nat) ∧ rE (0 : Nat) ∧ rE (0 : Nat) ∧ rE (0 : Nat) ∧ (false = true ↔ tesQ x.T x.s x.u x.p z) ∧ (0 : Int) = (↑z : Int) ∧ rE x.d.1 ∧ rE x.d.2 ∧ rE x.d.3 ∧ rE x.d.4 ∧ rE x.T.1 ∧ (∀ (i : Nat), i < x.T.1 → rE ((x.T.f i).sv.den) ∧ True ∧ True ∧ True ∧ True ∧ True) ∧ x.3 = x.3 ∧ True) ∧ ∀ (z : Nat), z ≤ x.T.1 → (0 : Nat) < (1 : Nat) ∧ ((↑z : Int) < (↑x.T.1 : Int) → (tesQ x.T x.s x.u x.p z → rI ((↑z : Int) + (1 : Int)) ∧ ∃ (z_1 : Nat), z_1 ≤ x.T.1 ∧ x.T.1 - z_1 < x.T.1 - z ∧ x.4 = x.4 ∧ x.5 = x.5 ∧ rE (0 : Nat) ∧ rE (0 : Nat) ∧ rE (0 : Nat) ∧ rE (0 : Nat) ∧ (rE true ↔ tesQ x.T x.s x.u x.p z_1) ∧ (↑z : Int) + (1 : Int) = (↑z_1 : Int) ∧ rE x.d.1 ∧ rE x.d.2 ∧ rE x.d.3 ∧ rE x.d.4 ∧ rE x.T.1 ∧ (∀ (i : Nat), i < x.T.1 → rE ((x.T.f i).sv.den) ∧ True ∧ True ∧ True ∧ True ∧ True) ∧ x.3
 = x.3 ∧ True) ∧ (¬tesQ x.T x.s x.u x.p z → (0 : Nat) < (1 : Nat) ∧ (0 : Int) ≤ (↑z : Int) ∧ (↑z : Int) < (↑x.T.1 : Int) ∧ ((x.T.f (↑z : Int).toNat).2 = x.4 → (0 : Nat) < (1 : Nat) ∧ (0 : Int) ≤ (↑z : Int) ∧ (↑z : Int) < (↑x.T.1 : Int) ∧ ((x.T.f (↑z : Int).toNat).1 ≤ x.5 → (0 : Nat) < (1 : Nat) ∧ (0 : Int) ≤ (↑z : Int) ∧ (↑z : Int) < (↑x.T.1 : Int) ∧ (0 : Nat) < (1 : Nat) ∧ rI (x.5 - x.3) ∧ rI ((↑z : Int) + (1 : Int)) ∧ ∃ (z_1 : Nat), z_1 ≤ x.T.1 ∧ x.T.1 - z_1 < x.T.1 - z ∧ x.4 = x.4 ∧ x.5 = x.5 ∧ rE (0 : Nat) ∧ rE (0 : Nat) ∧ rE (0 : Nat) ∧ rE (0 : Nat) ∧ (x.5 - x.3 < (x.T.f (↑z : Int).toNat).1 ↔ tesQ x.T x.s x.u x.p z_1) ∧ (↑z : Int) + (1 : Int) = (↑z_1 : Int) ∧ rE x.d.1 ∧ rE x.d.2 ∧ rE x.d.3 ∧ rE x.d.4 ∧ rE x.T.1 ∧ (∀ (i : Nat), i < x.T.1 → rE ((x.T.f i).sv.den) ∧ True ∧ True ∧ True ∧ True ∧ True) ∧ x.3 = x.3 ∧ True) ∧ (¬(x.T.f (↑z : Int).toNat).1 ≤ x.5 → rI ((↑z : Int) + (1 : Int)) ∧
 ∃ (z_1 : Nat), z_1 ≤ x.T.1 ∧ x.T.1 - z_1 < x.T.1 - z ∧ x.4 = x.4 ∧ x.5 = x.5 ∧ rE (0 : Nat) ∧ rE (0 : Nat) ∧ rE (0 : Nat) ∧ rE (0 : Nat) ∧ (false = true ↔ tesQ x.T x.s x.u x.p z_1) ∧ (↑z : Int) + (1 : Int) = (↑z_1 : Int) ∧ rE x.d.1 ∧ rE x.d.2 ∧ rE x.d.3 ∧ rE x.d.4 ∧ rE x.T.1 ∧ (∀ (i : Nat), i < x.T.1 → rE ((x.T.f i).sv.den) ∧ True ∧ True ∧ True ∧ True ∧ True) ∧ x.3 = x.3 ∧ True)) ∧ (¬(x.T.f (↑z : Int).toNat).2 = x.4 → rI ((↑z : Int) + (1 : Int)) ∧ ∃ (z_1 : Nat), z_1 ≤ x.T.1 ∧ x.T.1 - z_1 < x.T.1 - z ∧ x.4 = x.4 ∧ x.5 = x.5 ∧ rE (0 : Nat) ∧ rE (0 : Nat) ∧ rE (0 : Nat) ∧ rE (0 : Nat) ∧ (false = true ↔ tesQ x.T x.s x.u x.p z_1) ∧ (↑z : Int) + (1 : Int) = (↑z_1 : Int) ∧ rE x.d.1 ∧ rE x.d.2 ∧ rE x.d.3 ∧ rE x.d.4 ∧ rE x.T.1 ∧ (∀ (i : Nat), i < x.T.1 → rE ((x.T.f i).sv.den) ∧ True ∧ True ∧ True ∧ True ∧ True) ∧ x.3 = x.3 ∧ True))) ∧ (¬(↑z : Int) < (↑x.T.1 : Int) → (tesQ x.T x.s x.u x.p z ↔
 tesQ x.T x.s x.u x.p x.T.n) ∧ rE x.d.1 ∧ rE x.d.2 ∧ rE x.d.3 ∧ rE x.d.4 ∧ rE x.T.1 ∧ (∀ (i : Nat), i < x.T.1 → rE ((x.T.f i).sv.den) ∧ True ∧ True ∧ True ∧ True ∧ True) ∧ x.3 = x.3 ∧ True)) := by kernel_rfl
noncomputable def hoT (d : De) (T : Tl) (st p lo hi a : Int) : Prop := (erM T st p lo hi = (0 : Int) → (0 : Nat) < (1 : Nat) ∧ (0 : Nat) < (1 : Nat) ∧ rI (lo + p) ∧ rI (lo + p - (1 : Int)) ∧ (miH T st p lo hi < lo + p - (1 : Int) → false = true ∧ True) ∧ (¬miH T st p lo hi < lo + p - (1 : Int) → (0 : Nat) < (1 : Nat) ∧ (hi < miH T st p lo hi → false = true ∧ True) ∧ (¬hi < miH T st p lo hi → (miS T st p lo hi < (0 : Int) → false = true ∧ True) ∧ (¬miS T st p lo hi < (0 : Int) → (st ≤ miS T st p lo hi → false = true ∧ True) ∧ (¬st ≤ miS T st p lo hi → rE T.sv ∧ (TsP.mk d T p (miS T st p lo hi) (miH T st p lo hi)).ok ∧ rE (miS T st p lo hi) ∧ rE (miH T st p lo hi) ∧ rE (0 : Nat) ∧ rE (0 : Nat) ∧ rE (0 : Nat) ∧ rE (0 : Nat) ∧ d.1 = d.1 ∧ d.2 = d.2 ∧ d.3 = d.3 ∧ d.4 = d.4 ∧ T.1 = T.1 ∧ (∀ (i : Nat), i < T.1 → rE ((T.f i).sv.den)) ∧ p = p ∧ (tesQ T (miS T st p lo hi) (miH T st p lo hi) p T.n → false = true ∧ True) ∧ (¬tesQ T (miS T st p lo hi) (miH T st p lo hi) p T.n → (∃ (z : Nat), z ≤ (miS T st p lo hi).toNat ∧ rE (0 : Nat) ∧ rE (0 : Nat) ∧ rE (0 : Nat) ∧ rE (0 : Nat) ∧ rE (miH T st p lo hi) ∧ rE (miS T st p lo hi) ∧ Fn.func (27 : Nat) = Fn.func (27 : FuncId) ∧ rE (0 : Nat) ∧ rE (0 : Nat) ∧ rE (0 : Nat) ∧ rE (0 : Nat) ∧ (0 : Int) = (↑z : Int) ∧ d.1 = d.1 ∧ d.2 = d.2 ∧ d.3 = d.3 ∧ d.4 = d.4 ∧ T.1 = T.1 ∧ (∀ (i : Nat), i < T.1 → rE ((T.f i).sv.den) ∧ True ∧ True ∧ True ∧ True ∧ True) ∧ p = p ∧ lo = lo ∧ hi = hi ∧ True) ∧ ∀ (z : Nat), z ≤ (miS T st p lo hi).toNat → ((↑z : Int) < miS T st p lo hi → rE T.sv ∧ (TsP.mk d T p (↑z : Int) (miH T st p lo hi)).ok ∧ rE (↑z : Int) ∧ rE (miH T st p lo hi) ∧ rE (0 : Nat) ∧ rE (0 : Nat) ∧ rE (0 : Nat) ∧ rE (0 : Nat) ∧ d.1 = d.1 ∧ d.2 = d.2 ∧ d.3 = d.3 ∧ d.4 = d.4 ∧ T.1 = T.1 ∧ (∀ (i : Nat), i < T.1 → rE ((T.f i).sv.den)) ∧ p = p ∧ (¬tesQ T (↑z : Int) (miH T st p lo hi) p T.n → false = true ∧ True) ∧ (¬¬tesQ T (↑z : Int) (miH T st p lo hi) p T.n → rI ((↑z : Int) + (1 : Int)) ∧ ∃ (z_1 : Nat), z_1 ≤ (miS T st p lo hi).toNat ∧ (miS T st p lo hi).toNat - z_1 < (miS T st p lo hi).toNat - z ∧ rE (0 : Nat) ∧ rE (0 : Nat) ∧ rE (0 : Nat) ∧ rE (0 : Nat) ∧ rE (miH T st p lo hi) ∧ rE (miS T st p lo hi) ∧ rE (Fn.func (27 : FuncId)) ∧ rE (0 : Nat) ∧ rE (0 : Nat) ∧ rE (0 : Nat) ∧ rE (0 : Nat) ∧ (↑z : Int) + (1 : Int) = (↑z_1 : Int) ∧ d.1 = d.1 ∧ d.2 = d.2 ∧ d.3 = d.3 ∧ d.4 = d.4 ∧ T.1 = T.1 ∧ (∀ (i : Nat), i < T.1 → rE ((T.f i).sv.den) ∧ True ∧ True ∧ True ∧ True ∧ True) ∧ p = p ∧ lo = lo ∧ hi = hi ∧ True)) ∧ (¬(↑z : Int) < miS T st p lo hi → (0 : Nat) < (1 : Nat) ∧ (0 : Nat) < (1 : Nat) ∧ rI (lo + p) ∧ rI (lo + p - (1 : Int)) ∧ (miH T st p lo hi = lo + p - (1 : Int) → rE true ∧ True) ∧ (¬miH T st p lo hi = lo + p - (1 : Int) → rI (miH T st p lo hi - (1 : Int)) ∧ rE T.sv ∧ (TsP.mk d T p (miS T st p lo hi) (miH T st p lo hi - (1 : Int))).ok ∧ rE (miS T st p lo hi) ∧ rE (miH T st p lo hi - (1 : Int)) ∧ rE (0 : Nat) ∧ rE (0 : Nat) ∧ rE (0 : Nat) ∧ rE (0 : Nat) ∧ d.1 = d.1 ∧ d.2 = d.2 ∧ d.3 = d.3 ∧ d.4 = d.4 ∧ T.1 = T.1 ∧ (∀ (i : Nat), i < T.1 → rE ((T.f i).sv.den)) ∧ p = p ∧ (tesQ T (miS T st p lo hi) (miH T st p lo hi - (1 : Int)) p T.n → rE true ∧ True) ∧ (¬tesQ T (miS T st p lo hi) (miH T st p lo hi - (1 : Int)) p T.n → false = true ∧ True))))))))) ∧ (¬erM T st p lo hi = (0 : Int) → (¬erM T st p lo hi = (4 : Int) → (miH T st p lo hi = (0 : Int) → (miS T st p lo hi = (0 : Int) → rE true ∧ True) ∧ (¬miS T st p lo hi = (0 : Int) → false = true ∧ True)) ∧ (¬miH T st p lo hi = (0 : Int) → false = true ∧ True)) ∧ (¬¬erM T st p lo hi = (4 : Int) → (0 : Nat) < (1 : Nat) ∧ (0 : Nat) < (1 : Nat) ∧ rI (lo + p) ∧ rI (lo + p - (1 : Int)) ∧ rI (a) ∧ rI (lo + p - (1 : Int) + a) ∧ (∃ (z : Nat), z ≤ st.toNat ∧ st = st ∧ rE (0 : Nat) ∧ rE (0 : Nat) ∧ rE (miH T st p lo hi) ∧ rE (miS T st p lo hi) ∧ Fn.func (27 : Nat) = Fn.func (27 : FuncId) ∧ rE (0 : Nat) ∧ rE (0 : Nat) ∧ rE (0 : Nat) ∧ rE (0 : Nat) ∧ rE (lo + p - (1 : Int) + a) ∧ (0 : Int) = (↑z : Int) ∧ d.1 = d.1 ∧ d.2 = d.2 ∧ d.3 = d.3 ∧ d.4 = d.4 ∧ T.1 = T.1 ∧ (∀ (i : Nat), i < T.1 → rE ((T.f i).sv.den) ∧ True ∧ True ∧ True ∧ True ∧ True) ∧ p = p ∧ lo = lo ∧ hi = hi ∧ True) ∧ ∀ (z : Nat), z ≤ st.toNat → ((↑z : Int) < st → (0 : Nat) < (1 : Nat) ∧ (lo + p - (1 : Int) + a ≤ hi → rE T.sv ∧ (TsP.mk d T p (↑z : Int) (lo + p - (1 : Int) + a)).ok ∧ rE (↑z : Int) ∧ rE (lo + p - (1 : Int) + a) ∧ rE (0 : Nat) ∧ rE (0 : Nat) ∧ rE (0 : Nat) ∧ rE (0 : Nat) ∧ d.1 = d.1 ∧ d.2 = d.2 ∧ d.3 = d.3 ∧ d.4 = d.4 ∧ T.1 = T.1 ∧ (∀ (i : Nat), i < T.1 → rE ((T.f i).sv.den)) ∧ p = p ∧ (¬tesQ T (↑z : Int) (lo + p - (1 : Int) + a) p T.n → false = true ∧ True) ∧ (¬¬tesQ T (↑z : Int) (lo + p - (1 : Int) + a) p T.n → rI ((↑z : Int) + (1 : Int)) ∧ ∃ (z_1 : Nat), z_1 ≤ st.toNat ∧ st.toNat - z_1 < st.toNat - z ∧ st = st ∧ rE (0 : Nat) ∧ rE (0 : Nat) ∧ rE (miH T st p lo hi) ∧ rE (miS T st p lo hi) ∧ rE (Fn.func (27 : FuncId)) ∧ rE (0 : Nat) ∧ rE (0 : Nat) ∧ rE (0 : Nat) ∧ rE (0 : Nat) ∧ rE (lo + p - (1 : Int) + a) ∧ (↑z : Int) + (1 : Int) = (↑z_1 : Int) ∧ d.1 = d.1 ∧ d.2 = d.2 ∧ d.3 = d.3 ∧ d.4 = d.4 ∧ T.1 = T.1 ∧ (∀ (i : Nat), i < T.1 → rE ((T.f i).sv.den) ∧ True ∧ True ∧ True ∧ True ∧ True) ∧ p = p ∧ lo = lo ∧ hi = hi ∧ True)) ∧ (¬lo + p - (1 : Int) + a ≤ hi → (miH T st p lo hi = (0 : Int) → (miS T st p lo hi = (0 : Int) → rE true ∧ True) ∧ (¬miS T st p lo hi = (0 : Int) → false = true ∧ True)) ∧ (¬miH T st p lo hi = (0 : Int) → false = true ∧ True))) ∧ (¬(↑z : Int) < st → (miH T st p lo hi = (0 : Int) → (miS T st p lo hi = (0 : Int) → rE true ∧ True) ∧ (¬miS T st p lo hi = (0 : Int) → false = true ∧ True)) ∧ (¬miH T st p lo hi = (0 : Int) → false = true ∧ True))))
theorem hoG_vc (d : De) (T : Tl) (h : Int) (st : Int) (p : Int) (lo : Int) (hi : Int) (a : Int) : hoG d T h st p lo hi a = ((0 : Nat) < (1 : Nat) ∧ ((36 : Int) < (↑T.1 : Int) → rE true ∧ True) ∧ (¬(36 : Int) < (↑T.1 : Int) → ((0 : Nat) < (1 : Nat) ∧ ((0 : Int) < (↑T.1 : Int) → (True ∧ True ∧ True ∧ True ∧ (0 : Nat) < (1 : Nat) ∧ True ∧ True ∧ True ∧ True ∧ True ∧ True ∧ rI (a) ∧ True ∧ True ∧ rI ((0 : Int) + a) ∧ True ∧ True ∧ (0 : Nat) < (1 : Nat) ∧ True ∧ True ∧ True ∧ True ∧ ((↑T.1 : Int) = (0 : Int) → False) ∧ (True ∧ True ∧ (0 : Int) ≤ ((0 : Int) + a).tmod (↑T.1 : Int) ∧ ((0 : Int) + a).tmod (↑T.1 : Int) < (↑T.1 : Int) ∧ (True ∧ True ∧ True ∧ True ∧ True ∧ True ∧ True ∧ (∀ (i : Nat), i < (1 : Nat) → rE true) ∧ (1 : Nat) * (32 : Nat) ≤ (140737488355328 : Nat) ∧ (1 : Nat) ≤ (4611686018427387904 : Nat) ∧ True ∧ True ∧ ((1 : Nat) ≤ T.1 ∧ rE (Int.toNat (0 : Int))) ∧ h = h ∧ st = st ∧ a = a ∧ rE (0 : Nat) ∧ rE (0 : Nat) ∧ rE (0 : Nat) ∧ rE (0 : Nat) ∧ rE (0 : Nat) ∧ rE (0 : Nat) ∧ rE (0 : Nat) ∧ rE (0 : Nat) ∧ rE (0 : Nat) ∧ (1 : Nat) = Int.toNat (0 : Int) + (1 : Nat) ∧ (0 : Int) = (↑(Int.toNat (0 : Int)) : Int) ∧ d.1 = d.1 ∧ d.2 = d.2 ∧ d.3 = d.3 ∧ d.4 = d.4 ∧ T.1 = T.1 ∧ (∀ (i : Nat), i < T.1 → rE ((T.f i).sv.den) ∧ True ∧ True ∧ True ∧ True ∧ True) ∧ p = p ∧ lo = lo ∧ hi = hi ∧ rE (1 : Nat) ∧ (∀ (i : Nat), i < (1 : Nat) → rE (4 : Nat) ∧ (T.f (((0 : Int) + a).tmod (↑T.n : Int)).toNat).1 = ((rotT T a).f i).1 ∧ (T.f (((0 : Int) + a).tmod (↑T.n : Int)).toNat).2 = ((rotT T a).f i).2 ∧ (T.f (((0 : Int) + a).tmod (↑T.n : Int)).toNat).3 = ((rotT T a).f i).3 ∧ (T.f (((0 : Int) + a).tmod (↑T.n : Int)).toNat).4 = ((rotT T a).f i).4 ∧ True) ∧ True) ∧ True) ∧ True) ∧ ∀ (z : Nat), z.succ ≤ T.1 ∧ z = Int.toNat (0 : Int) → rI ((↑z : Int) + (1 : Int)) ∧ ∃ (z_1 : Nat), ((1 : Nat) ≤ z_1 ∧ z_1 ≤ T.1) ∧ T.1 - z_1 < T.1 ∧ h = h ∧ st = st ∧ a = a ∧ rE (0 : Nat) ∧ rE (0 : Nat) ∧ rE (0 : Nat) ∧ rE (0 : Nat) ∧ rE (0 : Nat) ∧ rE (0 : Nat) ∧ rE (0 : Nat) ∧ rE (0 : Nat) ∧ rE (0 : Nat) ∧ z + (1 : Nat) = z_1 ∧ (↑z : Int) + (1 : Int) = (↑z_1 : Int) ∧ d.1 = d.1 ∧ d.2 = d.2 ∧ d.3 = d.3 ∧ d.4 = d.4 ∧ T.1 = T.1 ∧ (∀ (i : Nat), i < T.1 → rE ((T.f i).sv.den) ∧ True ∧ True ∧ True ∧ True ∧ True) ∧ p = p ∧ lo = lo ∧ hi = hi ∧ z_1 = z + (1 : Nat) ∧ (∀ (i : Nat), i < z_1 → rE (4 : Nat) ∧ rE (((rotT T a).f i).1) ∧ rE (((rotT T a).f i).2) ∧ rE (((rotT T a).f i).3) ∧ rE (((rotT T a).f i).4) ∧ True) ∧ True) ∧ (¬(0 : Int) < (↑T.1 : Int) → (0 : Nat) < (1 : Nat) ∧ (0 : Nat) < (1 : Nat) ∧ (∀ (i : Nat), i < T.1 → True ∧ True ∧ True ∧ True ∧ True) ∧ rE T.sv ∧ T.1 ≤ (1000 : Nat) ∧ (0 : Nat) < (1 : Nat) ∧ (0 : Nat) < (1 : Nat) ∧ (0 : Nat) < (1 : Nat) ∧ (∀ (i : Nat), i < T.1 → True ∧ True ∧ True ∧ True ∧ True) ∧ rE T.sv ∧ T.1 ≤ (1000 : Nat) ∧ (0 : Nat) < (1 : Nat) ∧ (0 : Nat) < (1 : Nat) ∧ (0 : Nat) < (1 : Nat) ∧ (0 : Nat) < (1 : Nat) ∧ (∀ (i : Nat), i < T.1 → True ∧ True ∧ True ∧ True ∧ True) ∧ rE T.sv ∧ T.1 ≤ (1000 : Nat) ∧ (0 : Nat) < (1 : Nat) ∧ (0 : Nat) < (1 : Nat) ∧ (0 : Nat) < (1 : Nat) ∧ (0 : Nat) < (1 : Nat) ∧ (¬(dL d T h = dL d zT h ∧ dH d T h = dH d zT h) → false = true ∧ True) ∧ (¬¬(dL d T h = dL d zT h ∧ dH d T h = dH d zT h) → (¬erJ d T h = erJ d zT h → false = true ∧ True) ∧ (¬¬erJ d T h = erJ d zT h → (¬woH d T = woH d zT → false = true ∧ True) ∧ (¬¬woH d T = woH d zT → (¬woK d T = woK d zT → false = true ∧ True) ∧ (¬¬woK d T = woK d zT → (¬erW d T = erW d zT → false = true ∧ True) ∧ (¬¬erW d T = erW d zT → (¬miH T st p lo hi = miH zT st p lo hi → false = true ∧ True) ∧ (¬¬miH T st p lo hi = miH zT st p lo hi → (¬miS T st p lo hi = miS zT st p lo hi → false = true ∧ True) ∧ (¬¬miS T st p lo hi = miS zT st p lo hi → (¬erM T st p lo hi = erM zT st p lo hi → false = true ∧ True) ∧ (¬¬erM T st p lo hi = erM zT st p lo hi → hoT d T st p lo hi a)))))))))) ∧ ∀ (z : Nat), (1 : Nat) ≤ z ∧ z ≤ T.1 → (0 : Nat) < (1 : Nat) ∧ ((↑z : Int) < (↑T.1 : Int) → (True ∧ True ∧ True ∧ True ∧ (0 : Nat) < (1 : Nat) ∧ True ∧ True ∧ True ∧ True ∧ True ∧ True ∧ rI (a) ∧ True ∧ True ∧ rI ((↑z : Int) + a) ∧ True ∧ True ∧ (0 : Nat) < (1 : Nat) ∧ True ∧ True ∧ True ∧ True ∧ ((↑T.1 : Int) = (0 : Int) → False) ∧ (True ∧ True ∧ (0 : Int) ≤ ((↑z : Int) + a).tmod (↑T.1 : Int) ∧ ((↑z : Int) + a).tmod (↑T.1 : Int) < (↑T.1 : Int) ∧ (True ∧ True ∧ True ∧ True ∧ True ∧ True ∧ True ∧ (∀ (i : Nat), i < (1 : Nat) → rE true) ∧ rE (0 : Nat) ∧ z = z ∧ (∀ (i : Nat), rE true) ∧ (z + (1 : Nat)) * (32 : Nat) ≤ (140737488355328 : Nat) ∧ z + (1 : Nat) ≤ (4611686018427387904 : Nat) ∧ True ∧ True ∧ ((↑z : Int).toNat.succ ≤ T.1 ∧ rE ((↑z : Int).toNat)) ∧ h = h ∧ st = st ∧ a = a ∧ rE (0 : Nat) ∧ rE (0 : Nat) ∧ rE (0 : Nat) ∧ rE (0 : Nat) ∧ rE (0 : Nat) ∧ rE (0 : Nat) ∧ rE (0 : Nat) ∧ rE (0 : Nat) ∧ rE (0 : Nat) ∧ z + (1 : Nat) = (↑z : Int).toNat + (1 : Nat) ∧ (↑z : Int) = (↑(↑z : Int).toNat : Int) ∧ d.1 = d.1 ∧ d.2 = d.2 ∧ d.3 = d.3 ∧ d.4 = d.4 ∧ T.1 = T.1 ∧ (∀ (i : Nat), i < T.1 → rE ((T.f i).sv.den) ∧ True ∧ True ∧ True ∧ True ∧ True) ∧ p = p ∧ lo = lo ∧ hi = hi ∧ (↑z : Int).toNat + (1 : Nat) = z + (1 : Nat) ∧ (∀ (i : Nat), i < (↑z : Int).toNat + (1 : Nat) → rE (4 : Nat) ∧ (if i < z then ((rotT T a).f i).1 else (T.f (((↑z : Int) + a).tmod (↑T.n : Int)).toNat).1) = ((rotT T a).f i).1 ∧ (if i < z then ((rotT T a).f i).2 else (T.f (((↑z : Int) + a).tmod (↑T.n : Int)).toNat).2) = ((rotT T a).f i).2 ∧ (if i < z then ((rotT T a).f i).3 else (T.f (((↑z : Int) + a).tmod (↑T.n : Int)).toNat).3) = ((rotT T a).f i).3 ∧ (if i < z then ((rotT T a).f i).4 else (T.f (((↑z : Int) + a).tmod (↑T.n : Int)).toNat).4) = ((rotT T a).f i).4 ∧ True) ∧ True) ∧ True) ∧ True) ∧ ∀ (z_1 : Nat), z_1.succ ≤ T.1 ∧ z_1 = (↑z : Int).toNat → rI ((↑z_1 : Int) + (1 : Int)) ∧ ∃ (z_2 : Nat), ((1 : Nat) ≤ z_2 ∧ z_2 ≤ T.1) ∧ T.1 - z_2 < T.1 - z ∧ h = h ∧ st = st ∧ a = a ∧ rE (0 : Nat) ∧ rE (0 : Nat) ∧ rE (0 : Nat) ∧ rE (0 : Nat) ∧ rE (0 : Nat) ∧ rE (0 : Nat) ∧ rE (0 : Nat) ∧ rE (0 : Nat) ∧ rE (0 : Nat) ∧ z_1 + (1 : Nat) = z_2 ∧ (↑z_1 : Int) + (1 : Int) = (↑z_2 : Int) ∧ d.1 = d.1 ∧ d.2 = d.2 ∧ d.3 = d.3 ∧ d.4 = d.4 ∧ T.1 = T.1 ∧ (∀ (i : Nat), i < T.1 → rE ((T.f i).sv.den) ∧ True ∧ True ∧ True ∧ True ∧ True) ∧ p = p ∧ lo = lo ∧ hi = hi ∧ z_2 = z_1 + (1 : Nat) ∧ (∀ (i : Nat), i < z_2 → rE (4 : Nat) ∧ rE (((rotT T a).f i).1) ∧ rE (((rotT T a).f i).2) ∧ rE (((rotT T a).f i).3) ∧ rE (((rotT T a).f i).4) ∧ True) ∧ True) ∧ (¬(↑z : Int) < (↑T.1 : Int) → (0 : Nat) < (1 : Nat) ∧ (0 : Nat) < (1 : Nat) ∧ (∀ (i : Nat), i < T.1 → True ∧ True ∧ True ∧ True ∧ True) ∧ rE T.sv ∧ T.1 ≤ (1000 : Nat) ∧ (0 : Nat) < (1 : Nat) ∧ (0 : Nat) + z ≤ z ∧ (∀ (i : Nat), i < z → rE (4 : Nat) ∧ True ∧ True ∧ True ∧ True ∧ True) ∧ (SV.lst (4 : Nat) z fun i => ((rotT T a).f (i + (0 : Nat))).sv) = (tlOf z fun i => ((rotT T a).f (i + (0 : Nat))).sv).sv ∧ z ≤ (1000 : Nat) ∧ (0 : Nat) < (1 : Nat) ∧ (0 : Nat) < (1 : Nat) ∧ (∀ (i : Nat), i < T.1 → True ∧ True ∧ True ∧ True ∧ True) ∧ rE T.sv ∧ T.1 ≤ (1000 : Nat) ∧ (0 : Nat) < (1 : Nat) ∧ (0 : Nat) + z ≤ z ∧ (∀ (i : Nat), i < z → rE (4 : Nat) ∧ True ∧ True ∧ True ∧ True ∧ True) ∧ (SV.lst (4 : Nat) z fun i => ((rotT T a).f (i + (0 : Nat))).sv) = (tlOf z fun i => ((rotT T a).f (i + (0 : Nat))).sv).sv ∧ z ≤ (1000 : Nat) ∧ (0 : Nat) < (1 : Nat) ∧ (0 : Nat) < (1 : Nat) ∧ (0 : Nat) < (1 : Nat) ∧ (∀ (i : Nat), i < T.1 → True ∧ True ∧ True ∧ True ∧ True) ∧ rE T.sv ∧ T.1 ≤ (1000 : Nat) ∧ (0 : Nat) < (1 : Nat) ∧ (0 : Nat) < (1 : Nat) ∧ (0 : Nat) + z ≤ z ∧ (∀ (i : Nat), i < z → rE (4 : Nat) ∧ True ∧ True ∧ True ∧ True ∧ True) ∧ (SV.lst (4 : Nat) z fun i => ((rotT T a).f (i + (0 : Nat))).sv) = (tlOf z fun i => ((rotT T a).f (i + (0 : Nat))).sv).sv ∧ z ≤ (1000 : Nat) ∧ (0 : Nat) < (1 : Nat) ∧ (0 : Nat) < (1 : Nat) ∧ (¬(dL d T h = dL d (tlOf z fun i => ((rotT T a).f (i + (0 : Nat))).sv) h ∧ dH d T h = dH d (tlOf z fun i => ((rotT T a).f (i + (0 : Nat))).sv) h) → false = true ∧ True) ∧ (¬¬(dL d T h = dL d (tlOf z fun i => ((rotT T a).f (i + (0 : Nat))).sv) h ∧ dH d T h = dH d (tlOf z fun i => ((rotT T a).f (i + (0 : Nat))).sv) h) → (¬erJ d T h = erJ d (tlOf z fun i => ((rotT T a).f (i + (0 : Nat))).sv) h → false = true ∧ True) ∧ (¬¬erJ d T h = erJ d (tlOf z fun i => ((rotT T a).f (i + (0 : Nat))).sv) h → (¬woH d T = woH d (tlOf z fun i => ((rotT T a).f (i + (0 : Nat))).sv) → false = true ∧ True) ∧ (¬¬woH d T = woH d (tlOf z fun i => ((rotT T a).f (i + (0 : Nat))).sv) → (¬woK d T = woK d (tlOf z fun i => ((rotT T a).f (i + (0 : Nat))).sv) → false = true ∧ True) ∧ (¬¬woK d T = woK d (tlOf z fun i => ((rotT T a).f (i + (0 : Nat))).sv) → (¬erW d T = erW d (tlOf z fun i => ((rotT T a).f (i + (0 : Nat))).sv) → false = true ∧ True) ∧ (¬¬erW d T = erW d (tlOf z fun i => ((rotT T a).f (i + (0 : Nat))).sv) → (¬miH T st p lo hi = miH (tlOf z fun i => ((rotT T a).f (i + (0 : Nat))).sv) st p lo hi → false = true ∧ True) ∧ (¬¬miH T st p lo hi = miH (tlOf z fun i => ((rotT T a).f (i + (0 : Nat))).sv) st p lo hi → (¬miS T st p lo hi = miS (tlOf z fun i => ((rotT T a).f (i + (0 : Nat))).sv) st p lo hi → false = true ∧ True) ∧ (¬¬miS T st p lo hi = miS (tlOf z fun i => ((rotT T a).f (i + (0 : Nat))).sv) st p lo hi → (¬erM T st p lo hi = erM (tlOf z fun i => ((rotT T a).f (i + (0 : Nat))).sv) st p lo hi → false = true ∧ True) ∧ (¬¬erM T st p lo hi = erM (tlOf z fun i => ((rotT T a).f (i + (0 : Nat))).sv) st p lo hi → hoT d T st p lo hi a))))))))))) := by kernel_rfl
end Go.Proofs.Ytgidaaogknikoaa 

set_option maxRecDepth 100000
namespace Go.Proofs.Ytgidaaogknikoaa
open Go Go.Lg
attribute [local irreducible] funS bodyH
structure Eqv (T T' : Tl) : Prop where
  n : T.n = T'.n
  s : ∀ g : Tst → Int, sumJ (fun k => g (T.f k)) T.n = sumJ (fun k => g (T'.f k)) T'.n
  a : ∀ i, i < T.n → ∃ j, j < T'.n ∧ T'.f j = T.f i
  b : ∀ j, j < T'.n → ∃ i, i < T.n ∧ T.f i = T'.f j
theorem sumJ_congr {g g' : Nat → Int} : ∀ {m : Nat}, (∀ k, k < m → g k = g' k) → sumJ g m = sumJ g' m
  | 0, _ => rfl
  | m + 1, h => by
    simp only [sumJ]
    rw [sumJ_congr (m := m) fun k hk => h k (by omega), h m (by omega)]
theorem sumJ_front (g : Nat → Int) : ∀ m : Nat, sumJ g (m + 1) = g 0 + sumJ (fun k => g (k + 1)) m
  | 0 => by simp [sumJ]
  | m + 1 => by
    have ih := sumJ_front g m
    have e : sumJ g (m + 2) = sumJ g (m + 1) + g (m + 1) := rfl
    have e2 : sumJ (fun k => g (k + 1)) (m + 1) = sumJ (fun k => g (k + 1)) m + g (m + 1) := rfl
    rw [e, e2, ih]; omega
theorem sumJ_rot1 (g : Nat → Int) (n : Nat) : sumJ (fun k => g ((k + 1) % n)) n = sumJ g n := by
  cases n with
  | zero => rfl
  | succ m =>
    rw [sumJ_front g m]
    have e : sumJ (fun k => g ((k + 1) % (m + 1))) (m + 1) = sumJ (fun k => g ((k + 1) % (m + 1))) m + g ((m + 1) % (m + 1)) := rfl
    rw [e, Nat.mod_self, sumJ_congr (g' := fun k => g (k + 1)) fun k hk => by show g ((k + 1) % (m + 1)) = g (k + 1); rw [Nat.mod_eq_of_lt (by omega)]]
    omega
theorem sumJ_rot (g : Nat → Int) (n : Nat) : ∀ t : Nat, sumJ (fun k => g ((k + t) % n)) n = sumJ g n
  | 0 => sumJ_congr fun k hk => by show g ((k + 0) % n) = g k; rw [Nat.add_zero, Nat.mod_eq_of_lt hk]
  | t + 1 => by
    rw [← sumJ_rot g n t, ← sumJ_rot1 (fun k => g ((k + t) % n)) n]
    refine sumJ_congr fun k hk => ?_
    show g ((k + (t + 1)) % n) = g (((k + 1) % n + t) % n)
    rw [Nat.mod_add_mod, show k + 1 + t = k + (t + 1) by omega]
theorem rot_sur {n t i : Nat} (hi : i < n) : ∃ j, j < n ∧ (j + t) % n = i := by
  refine ⟨(i + (n - t % n)) % n, Nat.mod_lt _ (by omega), ?_⟩
  rw [Nat.mod_add_mod]
  have h1 := Nat.div_add_mod t n
  have h2 := Nat.mod_lt t (by omega : 0 < n)
  have e : i + (n - t % n) + t = i + n * (1 + t / n) := by
    rw [Nat.mul_add, Nat.mul_one]; omega
  rw [e, Nat.add_mul_mod_self_left, Nat.mod_eq_of_lt hi]
theorem rot_eqv (T : Tl) (a : Int) : Eqv T (rotT T a) := by
  refine ⟨rfl, fun g => (sumJ_rot (fun k => g (T.f k)) T.n a.toNat).symm, fun i hi => ?_, fun j hj => ?_⟩
  · obtain ⟨j, h1, h2⟩ := rot_sur (t := a.toNat) hi
    exact ⟨j, h1, by show T.f ((j + a.toNat) % T.n) = T.f i; rw [h2]⟩
  · have hj : j < T.n := hj
    exact ⟨(j + a.toNat) % T.n, Nat.mod_lt _ (by omega), rfl⟩
theorem zT_eqv {T : Tl} (h : T.n = 0) : Eqv T zT := by
  refine ⟨h, fun g => by rw [h]; rfl, fun i hi => by omega, fun j hj => by exact absurd hj (Nat.not_lt_zero j)⟩
theorem sumW_if {p : Nat → Prop} {g : Nat → Int} {g' : Nat → Int} : ∀ {m : Nat}, (∀ k, k < m → (p k → g' k = g k) ∧ (¬ p k → g' k = 0)) → sumW p g m = sumJ g' m
  | 0, _ => rfl
  | m + 1, h => by
    have ih := sumW_if (p := p) (g := g) (g' := g') (m := m) fun k hk => h k (by omega)
    simp only [sumJ]
    by_cases hp : p m
    · rw [sumW_yes hp, ih, (h m (by omega)).1 hp]
    · rw [sumW_no hp, ih, (h m (by omega)).2 hp]; omega
open Classical in
noncomputable def inG (h p : Int) (f : Tst → Int) (t : Tst) : Int := if inW t h p then f t else 0
theorem win_sum {T : Tl} {h p : Int} (f : Tst → Int) : sumJ (fun j => f (winT T h p j)) (winN T h p) = sumJ (fun k => inG h p f (T.f k)) T.n := by
  have e := sumW_J (T := T) (h := h) (p := p) f (Nat.le_refl T.n)
  rw [show winN T h p = fiN (fun k => inW (T.f k) h p) T.n from rfl, ← e]
  refine sumW_if fun k hk => ⟨fun hw => ?_, fun hw => ?_⟩
  · unfold inG; rw [if_pos hw]
  · unfold inG; rw [if_neg hw]
theorem sum_one : ∀ m : Nat, sumJ (fun _ => 1) m = m
  | 0 => rfl
  | m + 1 => by simp only [sumJ]; rw [sum_one m]; omega
section
variable {T T' : Tl} (E : Eqv T T')
include E
theorem eq_winN (h p : Int) : winN T h p = winN T' h p := by
  have e1 := win_sum (T := T) (h := h) (p := p) fun _ => 1
  have e2 := win_sum (T := T') (h := h) (p := p) fun _ => 1
  rw [sum_one] at e1 e2
  have := E.s (inG h p fun _ => 1)
  omega
theorem eq_oc (d : De) (h : Int) : ocL d T h = ocL d T' h ∧ ocH d T h = ocH d T' h := by
  have n := eq_winN E h d.w
  have e1 := win_sum (T := T) (h := h) (p := d.w) fun t => t.lo
  have e2 := win_sum (T := T') (h := h) (p := d.w) fun t => t.lo
  have e3 := win_sum (T := T) (h := h) (p := d.w) fun t => t.hi
  have e4 := win_sum (T := T') (h := h) (p := d.w) fun t => t.hi
  unfold ocL ocH
  rw [e1, e2, e3, e4, E.s, E.s, n]
  exact ⟨rfl, rfl⟩
theorem eq_okTl : okTl T ↔ okTl T' := by
  constructor
  · intro h j hj
    obtain ⟨i, hi, e⟩ := E.b j hj
    rw [← e]; exact h i hi
  · intro h j hj
    obtain ⟨i, hi, e⟩ := E.a j hj
    rw [← e]; exact h i hi
theorem eq_erT : erT T = erT T' := by
  unfold erT
  rw [E.n]
  by_cases h : okTl T
  · rw [if_pos h, if_pos ((eq_okTl E).1 h)]
  · rw [if_neg h, if_neg fun x => h ((eq_okTl E).2 x)]
theorem eq_erA (d : De) : erA d T = erA d T' := by
  unfold erA
  rw [eq_erT E]
theorem eq_erJ (d : De) (h : Int) : erJ d T h = erJ d T' h := by
  unfold erJ
  rw [eq_erA E, eq_winN E]
theorem eq_d (d : De) (h : Int) : dL d T h = dL d T' h ∧ dH d T h = dH d T' h := by
  unfold dL dH
  rw [eq_erJ E, (eq_oc E d h).1, (eq_oc E d h).2]
  exact ⟨rfl, rfl⟩
theorem eq_ver {d : De} {i j : Nat} (e : T'.f j = T.f i) : verK d T i = verK d T' j := by
  unfold verK
  rw [e, (eq_oc E d _).1, (eq_oc E d _).2]
theorem eq_least (d : De) : leastJ (verK d T) T.n = leastJ (verK d T') T'.n := by
  rcases Nat.eq_zero_or_pos T.n with h | h
  · rw [← E.n, h]; rfl
  · obtain ⟨⟨i, i1, i2⟩, i3⟩ := least_min (v := verK d T) h
    obtain ⟨⟨j, j1, j2⟩, j3⟩ := least_min (v := verK d T') (m := T'.n) (by rw [← E.n]; exact h)
    obtain ⟨i', a1, a2⟩ := E.a i i1
    obtain ⟨j', b1, b2⟩ := E.b j j1
    refine ltK_eq ?_ ?_
    · rw [i2, eq_ver E a2]; exact j3 i' a1
    · rw [j2, ← eq_ver E b2.symm]; exact i3 j' b1
theorem eq_wo (d : De) : woH d T = woH d T' ∧ woK d T = woK d T' ∧ erW d T = erW d T' := by
  have e : erW d T = erW d T' := by unfold erW; rw [eq_erA E, E.n]
  unfold woH woK
  rw [e, eq_least E d]
  exact ⟨rfl, rfl, rfl⟩
theorem eq_gap : gapP T = gapP T' := by
  funext st p h
  apply propext
  constructor
  · intro g j hj hs hw
    obtain ⟨i, hi, e⟩ := E.b j hj
    exact g i hi (by rw [e]; exact hs) (by rw [e]; exact hw)
  · intro g j hj hs hw
    obtain ⟨i, hi, e⟩ := E.a j hj
    exact g i hi (by rw [e]; exact hs) (by rw [e]; exact hw)
theorem eq_unt : untI T = untI T' := by
  funext st p a
  have : isFi T st p a = isFi T' st p a := by
    funext u
    apply propext
    constructor
    · rintro ⟨h1, h2, h3⟩
      rw [eq_gap E] at h2 h3
      exact ⟨h1, h2, h3⟩
    · rintro ⟨h1, h2, h3⟩
      rw [← eq_gap E] at h2 h3
      exact ⟨h1, h2, h3⟩
  unfold untI
  rw [this]
theorem eq_mi (st p lo hi : Int) : miH T st p lo hi = miH T' st p lo hi ∧ miS T st p lo hi = miS T' st p lo hi ∧ erM T st p lo hi = erM T' st p lo hi := by
  have e1 : gpP T = gpP T' := by
    funext a b c s
    unfold gpP; rw [eq_unt E]
  have e2 : gpL T = gpL T' := by
    funext a b c s
    unfold gpL; rw [e1]
  have e3 : gpN T = gpN T' := by
    funext a b c s
    unfold gpN; rw [e2]
  have e4 : gpK T = gpK T' := by
    funext a b c s j
    unfold gpK; rw [e2, eq_unt E]
  unfold miH miS
  have e5 : erM T st p lo hi = erM T' st p lo hi := by unfold erM; rw [eq_erT E, e3]
  rw [e5, e4, e3]
  exact ⟨rfl, rfl, rfl⟩
end
theorem erM_ok {T : Tl} {st p lo hi : Int} (h : erM T st p lo hi = 0 ∨ erM T st p lo hi = 4) : erT T = 0 ∧ okMi st p lo hi ∧ (erM T st p lo hi = 0 ↔ 0 < gpN T st p lo hi) := by
  have b : erT T = 0 ∨ erT T = 1 ∨ erT T = 3 := by unfold erT; repeat' split <;> omega
  have ht : erT T = 0 := by
    apply Classical.byContradiction
    intro hn
    rw [erM, if_neg hn] at h
    omega
  have hm : okMi st p lo hi := by
    apply Classical.byContradiction
    intro hn
    rw [erM, if_pos ht, if_neg hn] at h
    omega
  refine ⟨ht, hm, ?_⟩
  rw [erM, if_pos ht, if_pos hm]
  split <;> omega
theorem tesQ_gap {T : Tl} {s u p : Int} : tesQ T s u p T.n ↔ ¬ gapP T s p u := by
  constructor
  · rintro ⟨i, hi, h1, h2, h3⟩ hg
    exact hg i hi h1 ⟨h3, h2⟩
  · intro hg
    apply Classical.byContradiction
    intro hn
    exact hg fun i hi hs hw => hn ⟨i, hi, hs, hw.2, hw.1⟩
structure miF (T : Tl) (st p lo hi : Int) : Prop where
  l : lo + p - 1 ≤ miH T st p lo hi
  h : miH T st p lo hi ≤ hi
  s0 : 0 ≤ miS T st p lo hi
  s1 : miS T st p lo hi < st
  g : gapP T (miS T st p lo hi) p (miH T st p lo hi)
  z : ∀ z : Nat, (z : Int) < miS T st p lo hi → ¬ gapP T z p (miH T st p lo hi)
  x : ∀ x : Int, lo + p - 1 ≤ x → x < miH T st p lo hi → ¬ gapP T (miS T st p lo hi) p x
theorem mi_facts {T : Tl} {st p lo hi : Int} (he : erM T st p lo hi = 0) : miF T st p lo hi := by
  obtain ⟨ht, hm, hi0⟩ := erM_ok (.inl he)
  have m3 := hm.p0
  have m5 := hm.h.a
  have c2 := (erT_ok ht).2
  obtain ⟨⟨i, i1, i2⟩, i3⟩ := least_min (v := gpK T st p lo hi) (hi0.1 he)
  obtain ⟨s, q1, q2, q3⟩ := gp_at i1
  have f := untI_is (T := T) (st := s) (p := p) (a := lo + p - 1) c2 m3 (by omega)
  have eH : miH T st p lo hi = untI T s p (lo + p - 1) := by rw [miH, if_pos he, i2, q3]
  have eS : miS T st p lo hi = s := by rw [miS, if_pos he, i2, q3]
  rw [i2, q3] at i3
  refine ⟨by rw [eH]; exact f.l, by rw [eH]; exact q2, by rw [eS]; omega, by rw [eS]; exact q1, by rw [eH, eS]; exact f.g, fun z hz hg => ?_, by rw [eH, eS]; exact f.n⟩
  rw [eS] at hz
  rw [eH] at hg
  have f2 := untI_is (T := T) (st := z) (p := p) (a := lo + p - 1) c2 m3 (by omega)
  have le : untI T z p (lo + p - 1) ≤ untI T s p (lo + p - 1) := by
    rcases Int.lt_or_le (untI T s p (lo + p - 1)) (untI T z p (lo + p - 1)) with h | h
    · exact absurd hg (f2.n _ f.l h)
    · exact h
  obtain ⟨j, j1, j2⟩ := gp_has (T := T) (st := st) (p := p) (lo := lo) (hi := hi) (s := z) (by omega) (by omega)
  have := i3 j j1
  rw [j2] at this
  apply this
  rcases Int.lt_or_eq_of_le le with h | h
  · exact .inl h
  · exact .inr ⟨h, hz⟩
theorem mi_facts4 {T : Tl} {st p lo hi : Int} (he : erM T st p lo hi = 4) {s : Nat} {x : Int} (hs : (s : Int) < st) (h1 : lo + p - 1 ≤ x) (h2 : x ≤ hi) : ¬ gapP T s p x := by
  obtain ⟨ht, hm, hi0⟩ := erM_ok (.inr he)
  have m3 := hm.p0
  have m5 := hm.h.a
  intro hg
  have f2 := untI_is (T := T) (st := s) (p := p) (a := lo + p - 1) (erT_ok ht).2 m3 (by omega)
  have le : untI T s p (lo + p - 1) ≤ x := by
    rcases Int.lt_or_le x (untI T s p (lo + p - 1)) with h | h
    · exact absurd hg (f2.n _ h1 h)
    · exact h
  obtain ⟨j, j1, j2⟩ := gp_has (T := T) (st := st) (p := p) (lo := lo) (hi := hi) (s := s) hs (by omega)
  have : erM T st p lo hi = 0 := hi0.2 (by omega)
  omega
end Go.Proofs.Ytgidaaogknikoaa
