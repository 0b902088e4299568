import Derived.ProofKit
import Derived.Test.YtgidaaogknikoaaProg
import Derived.Test.YtgidaaogknikoaaPfPgPhPiPjPk
set_option linter.unusedVariables false
set_option linter.unusedSimpArgs false
namespace Go.Proofs.Ytgidaaogknikoaa
open Go Go.Lg
attribute [local irreducible] bodyH
def rI (x : Int) : Prop := -9223372036854775808 ≤ x ∧ x ≤ 9223372036854775807
def rE {α : Type} (a : α) : Prop := a = a
def tt3 : Prop := True ∧ True ∧ True
def tt4 : Prop := True ∧ True ∧ True ∧ True
def tt5 : Prop := True ∧ True ∧ True ∧ True ∧ True
def tt13 : Prop := True ∧ True ∧ True ∧ True ∧ True ∧ True ∧ True ∧ True ∧ True ∧ True ∧ True ∧ True ∧ True
def tt14 : Prop := True ∧ tt13
structure Tst where
  h : Int
  s : Int
  lo : Int
  hi : Int
def Tst.sv (t : Tst) : SV := .agg [i6 t.h, i6 t.s, i6 t.lo, i6 t.hi]
structure Tl where
  n : Nat
  f : Nat → Tst
def Tl.sv (T : Tl) : SV := .lst 4 T.n fun i => (T.f i).sv
structure De where
  w : Int
  d : Int
  sl : Int
  pay : Int
def De.cells (d : De) : List SV := [i6 d.w, i6 d.d, i6 d.sl, i6 d.pay]
def De.sv (d : De) : SV := .agg d.cells
def tOf : SV → Tst
  | .agg [.int _ a, .int _ b, .int _ c, .int _ d] => ⟨a, b, c, d⟩
  | _ => ⟨0, 0, 0, 0⟩
def tlOf (n : Nat) (f : Nat → SV) : Tl := ⟨n, fun i => tOf (f i)⟩
structure okSp (lo hi : Int) : Prop where
  a : 0 ≤ lo
  b : lo ≤ hi
  c : hi ≤ 10000
structure okTs (t : Tst) : Prop where
  h0 : 0 ≤ t.h
  h1 : t.h ≤ 1048576
  s0 : 0 ≤ t.s
  s1 : t.s ≤ 15
  sp : okSp t.lo t.hi
def okTl (T : Tl) : Prop := ∀ i, i < T.n → okTs (T.f i)
structure okDe (d : De) : Prop where
  w0 : 1 ≤ d.w
  w1 : d.w ≤ 10000
  d0 : 0 ≤ d.d
  d1 : d.d ≤ 10000
  l0 : 0 ≤ d.sl
  l1 : d.sl ≤ d.d
  p0 : 0 ≤ d.pay
  p1 : d.pay ≤ 1000000
open Classical in
noncomputable def erT (T : Tl) : Int := if 32 < T.n then 3 else if okTl T then 0 else 1
open Classical in
noncomputable def erA (d : De) (T : Tl) : Int := if erT T = 0 then (if okDe d then 0 else 1) else erT T
def frC : Ctr := ⟨33, fun args k => match args with
  | [.int .i64 n, .int .i64 a, .int .i64 b] => k (.dec (a ≤ n ∧ n ≤ b) (Classical.propDecidable _))
  | _ => False⟩
noncomputable def frG (n a b : Int) : Prop := funH Try.prog (ctrs []) noX (ictrs []) noL noL 33 [i6 n, i6 a, i6 b] (.dec (a ≤ n ∧ n ≤ b) (Classical.propDecidable _))
def vhC : Ctr := ⟨34, fun args k => match args with
  | [.agg [.int .i64 a, .int .i64 b]] => k (.dec (okSp a b) (Classical.propDecidable _))
  | _ => False⟩
noncomputable def vhG (a b : Int) : Prop := funH Try.prog (ctrs [frC]) noX (ictrs []) noL noL 34 [.agg [i6 a, i6 b]] (.dec (okSp a b) (Classical.propDecidable _))
def vtC : Ctr := ⟨66, fun args k => match args with
  | [.agg [.int .i64 a, .int .i64 b, .int .i64 c, .int .i64 d]] => k (.dec (okTs ⟨a, b, c, d⟩) (Classical.propDecidable _))
  | _ => False⟩
noncomputable def vtG (t : Tst) : Prop := funH Try.prog (ctrs [frC, vhC]) noX (ictrs []) noL noL 66 [t.sv] (.dec (okTs t) (Classical.propDecidable _))
def vdC : Ctr := ⟨61, fun args k => match args with
  | [.agg [.int .i64 a, .int .i64 b, .int .i64 c, .int .i64 d]] => k (.dec (okDe ⟨a, b, c, d⟩) (Classical.propDecidable _))
  | _ => False⟩
noncomputable def vdG (d : De) : Prop := funH Try.prog (ctrs [frC]) noX (ictrs []) noL noL 61 [d.sv] (.dec (okDe d) (Classical.propDecidable _))
noncomputable def ctL (T : Tl) : Nat → Option HSpec :=
  oneL 0 (natH (fun k => k ≤ T.n ∧ ∀ i, i < k → okTs (T.f i)) (fun k => T.n - k) 0 (fun k => mkF 18 [(8, T.sv), (9, i6 T.n), (10, i6 k)]) (fun _ => mkX []) fun _ => none)
noncomputable def ctG (T : Tl) : Prop := funH Try.prog (ctrs [vtC]) noX (ictrs []) (ctL T) noL 47 [T.sv] (i6 (erT T))
noncomputable def ctC : Ctr := ⟨47, fun args k => match args with
  | [.lst 4 n f] => SV.lst 4 n f = (tlOf n f).sv ∧ n ≤ 1000 ∧ k (i6 (erT (tlOf n f)))
  | _ => False⟩
noncomputable def caG (d : De) (T : Tl) : Prop := funH Try.prog (ctrs [vdC, ctC]) noX (ictrs []) noL noL 43 [d.sv, T.sv] (i6 (erA d T))
noncomputable def caC : Ctr := ⟨43, fun args k => match args with
  | [.agg [.int .i64 a, .int .i64 b, .int .i64 c, .int .i64 d], .lst 4 n f] => SV.lst 4 n f = (tlOf n f).sv ∧ n ≤ 1000 ∧ k (i6 (erA ⟨a, b, c, d⟩ (tlOf n f)))
  | _ => False⟩
structure okHs (lo hi : Int) : Prop where
  a : 0 ≤ lo
  b : lo ≤ hi
  c : hi ≤ 1048576
noncomputable def vsG (a b : Int) : Prop := funH Try.prog (ctrs [frC]) noX (ictrs []) noL noL 48 [.agg [i6 a, i6 b]] (.dec (okHs a b) (Classical.propDecidable _))
def vsC : Ctr := ⟨48, fun args k => match args with
  | [.agg [.int .i64 a, .int .i64 b]] => k (.dec (okHs a b) (Classical.propDecidable _))
  | _ => False⟩
end Go.Proofs.Ytgidaaogknikoaa

set_option maxRecDepth 100000
namespace Go.Proofs.Ytgidaaogknikoaa
open Go Go.Lg
theorem frG_vc (n : Int) (a : Int) (b : Int) : frG n a b =
 ((a ≤ n → (n ≤ b ↔ a ≤ n ∧ n ≤ b) ∧ True) ∧ (¬a ≤ n → (false = true ↔ a ≤ n ∧ n ≤ b) ∧ True)) := by kernel_rfl
theorem vhG_vc (a : Int) (b : Int) : vhG a b =
 ((0 : Nat) < (1 : Nat) ∧
  (0 : Nat) < (1 : Nat) ∧
    ((0 : Int) ≤ a ∧ a ≤ b → (0 : Nat) < (1 : Nat) ∧ (b ≤ (10000 : Int) ↔ okSp a b) ∧ True) ∧
      (¬((0 : Int) ≤ a ∧ a ≤ b) → (false = true ↔ okSp a b) ∧ True)) := by kernel_rfl
theorem vtG_vc (t : Tst) : vtG t =
 ((0 : Nat) < (1 : Nat) ∧
  ((0 : Int) ≤ t.1 ∧ t.1 ≤ (1048576 : Int) →
      (0 : Nat) < (1 : Nat) ∧
        ((0 : Int) ≤ t.2 ∧ t.2 ≤ (15 : Int) → (0 : Nat) < (1 : Nat) ∧ (okSp t.lo t.hi ↔ okTs t) ∧ True) ∧
          (¬((0 : Int) ≤ t.2 ∧ t.2 ≤ (15 : Int)) → (false = true ↔ okTs t) ∧ True)) ∧
    (¬((0 : Int) ≤ t.1 ∧ t.1 ≤ (1048576 : Int)) → (false = true ↔ okTs t) ∧ True)) := by kernel_rfl
theorem vdG_vc (d : De) : vdG d =
 ((0 : Nat) < (1 : Nat) ∧
  (¬((1 : Int) ≤ d.1 ∧ d.1 ≤ (10000 : Int)) → (false = true ↔ okDe d) ∧ True) ∧
    (¬¬((1 : Int) ≤ d.1 ∧ d.1 ≤ (10000 : Int)) →
      (0 : Nat) < (1 : Nat) ∧
        (¬((0 : Int) ≤ d.4 ∧ d.4 ≤ (1000000 : Int)) → (false = true ↔ okDe d) ∧ True) ∧
          (¬¬((0 : Int) ≤ d.4 ∧ d.4 ≤ (1000000 : Int)) →
            (0 : Nat) < (1 : Nat) ∧
              ((0 : Int) ≤ d.2 ∧ d.2 ≤ (10000 : Int) →
                  (0 : Nat) < (1 : Nat) ∧ (0 : Nat) < (1 : Nat) ∧ ((0 : Int) ≤ d.3 ∧ d.3 ≤ d.2 ↔ okDe d) ∧ True) ∧
                (¬((0 : Int) ≤ d.2 ∧ d.2 ≤ (10000 : Int)) → (false = true ↔ okDe d) ∧ True)))) := by kernel_rfl
theorem ctG_vc (T : Tl) : ctG T =
 (((32 : Int) < (↑T.1 : Int) → (3 : Int) = erT T ∧ True) ∧ (¬(32 : Int) < (↑T.1 : Int) → (∃ z, (z ≤ T.1 ∧ ∀ (i : Nat), i < z → okTs (T.f i)) ∧ T.1 = T.1 ∧ (∀ (i : Nat), i < T.1 → rE ((T.f i).sv.den) ∧ True ∧ True ∧ True ∧ True ∧ True) ∧ rE (↑T.1 : Int) ∧ (0 : Int) = (↑z : Int) ∧ True) ∧ ∀ (z : Nat), (z ≤ T.1 ∧ ∀ (i : Nat), i < z → okTs (T.f i)) → ((↑z : Int) < (↑T.1 : Int) → (0 : Int) ≤ (↑z : Int) ∧ (↑z : Int) < (↑T.1 : Int) ∧ (0 : Nat) < (1 : Nat) ∧ (¬okTs { h := (T.f (↑z : Int).toNat).h, s := (T.f (↑z : Int).toNat).s, lo := (T.f (↑z : Int).toNat).lo, hi := (T.f (↑z : Int).toNat).hi } → (1 : Int) = erT T ∧ True) ∧ (¬¬okTs { h := (T.f (↑z : Int).toNat).h, s := (T.f (↑z : Int).toNat).s, lo := (T.f (↑z : Int).toNat).lo, hi := (T.f (↑z : Int).toNat).hi } → rI ((↑z : Int) + (1 : Int)) ∧ ∃ z_1, (z_1 ≤ T.1 ∧ ∀ (i : Nat), i < z_1 → okTs (T.f i)) ∧ T.1 - z_1 < T.1 - z ∧ T.1 = T.1 ∧ (∀ (i : Nat),
 i < T.1 → rE ((T.f i).sv.den) ∧ True ∧ True ∧ True ∧ True ∧ True) ∧ rE (↑T.1 : Int) ∧ (↑z : Int) + (1 : Int) = (↑z_1 : Int) ∧ True)) ∧ (¬(↑z : Int) < (↑T.1 : Int) → (0 : Int) = erT T ∧ True))) := by kernel_rfl
theorem caG_vc (d : De) (T : Tl) : caG d T =
 ((∀ (i : Nat), i < T.1 → True ∧ True ∧ True ∧ True ∧ True) ∧
  (SV.lst (4 : Nat) T.n fun i => (T.f i).sv) = (tlOf T.n fun i => (T.f i).sv).sv ∧
    T.1 ≤ (1000 : Nat) ∧
      (¬erT (tlOf T.n fun i => (T.f i).sv) = (0 : Int) → erT (tlOf T.n fun i => (T.f i).sv) = erA d T ∧ True) ∧
        (¬¬erT (tlOf T.n fun i => (T.f i).sv) = (0 : Int) →
          (0 : Nat) < (1 : Nat) ∧
            (¬okDe { w := d.w, d := d.d, sl := d.sl, pay := d.pay } → (1 : Int) = erA d T ∧ True) ∧
              (¬¬okDe { w := d.w, d := d.d, sl := d.sl, pay := d.pay } → (0 : Int) = erA d T ∧ True))) := by kernel_rfl
theorem vsG_vc (a : Int) (b : Int) : vsG a b =
 ((0 : Nat) < (1 : Nat) ∧
  (0 : Nat) < (1 : Nat) ∧
    ((0 : Int) ≤ a ∧ a ≤ b → (0 : Nat) < (1 : Nat) ∧ (b ≤ (1048576 : Int) ↔ okHs a b) ∧ True) ∧
      (¬((0 : Int) ≤ a ∧ a ≤ b) → (false = true ↔ okHs a b) ∧ True)) := by kernel_rfl
end Go.Proofs.Ytgidaaogknikoaa

set_option maxRecDepth 100000
namespace Go.Proofs.Ytgidaaogknikoaa
open Go Go.Lg
attribute [local irreducible] funS bodyH
theorem mixed : Try.prog.follows .mixedOrders = true := by kernel_rfl
theorem nilS_x {γ : GS → noGhost.S} : SoundXH Try.prog noGhost γ noX := noX_sound
theorem nilS_ic : SoundIH Try.prog (ictrs []) := ictrs_sound (by intro x hx; simp at hx)
theorem nilS_cs : SoundS Try.prog (ctrs []) := ctrs_sound (by intro x hx; simp at hx)
theorem tl_fold (T : Tl) : (tlOf T.n fun i => (T.f i).sv) = T := rfl
theorem sv_fold (T : Tl) : (SV.lst 4 T.n fun i => (T.f i).sv) = T.sv := rfl
theorem fr_true (n a b : Int) : frG n a b := by
  rw [frG_vc]
  simp only [and_true, Bool.false_eq_true, false_iff]
  exact ⟨fun h => ⟨fun h2 => ⟨h, h2⟩, fun h2 => h2.2⟩, fun h h2 => h h2.1⟩
theorem fr_ok : frC.Ok Try.prog := by
  refine ⟨by kernel_rfl, fun x k hk => ?_⟩
  simp only [frC] at hk
  split at hk
  · rename_i n a b
    have hh := fr_true n a b
    unfold frG at hh
    exact ⟨_, Does.plain (funH_does nilS_cs nilS_x nilS_ic mixed hh) trivial, hk⟩
  · exact hk.elim
theorem fr_cs : SoundS Try.prog (ctrs [frC]) := ctrs_sound (by intro x hx; simp at hx; subst hx; exact fr_ok)
theorem vh_true (a b : Int) : vhG a b := by
  rw [vhG_vc]
  simp only [and_true, true_and, Nat.zero_lt_one, Bool.false_eq_true, false_iff]
  exact ⟨fun h => ⟨fun h2 => ⟨h.1, h.2, h2⟩, fun h2 => h2.c⟩, fun h h2 => h ⟨h2.a, h2.b⟩⟩
theorem vh_ok : vhC.Ok Try.prog := by
  refine ⟨by kernel_rfl, fun x k hk => ?_⟩
  simp only [vhC] at hk
  split at hk
  · rename_i a b
    have hh := vh_true a b
    unfold vhG at hh
    exact ⟨_, Does.plain (funH_does fr_cs nilS_x nilS_ic mixed hh) trivial, hk⟩
  · exact hk.elim
theorem vs_true (a b : Int) : vsG a b := by
  rw [vsG_vc]
  simp only [and_true, true_and, Nat.zero_lt_one, Bool.false_eq_true, false_iff]
  exact ⟨fun h => ⟨fun h2 => ⟨h.1, h.2, h2⟩, fun h2 => h2.c⟩, fun h h2 => h ⟨h2.a, h2.b⟩⟩
theorem vs_ok : vsC.Ok Try.prog := by
  refine ⟨by kernel_rfl, fun x k hk => ?_⟩
  simp only [vsC] at hk
  split at hk
  · rename_i a b
    have hh := vs_true a b
    unfold vsG at hh
    exact ⟨_, Does.plain (funH_does fr_cs nilS_x nilS_ic mixed hh) trivial, hk⟩
  · exact hk.elim
theorem vt_true (t : Tst) : vtG t := by
  rw [vtG_vc]
  simp only [and_true, true_and, Nat.zero_lt_one, Bool.false_eq_true, false_iff]
  exact ⟨fun h => ⟨fun h2 => ⟨fun h3 => ⟨h.1, h.2, h2.1, h2.2, h3⟩, fun h3 => h3.sp⟩, fun h2 h3 => h2 ⟨h3.s0, h3.s1⟩⟩, fun h h2 => h ⟨h2.h0, h2.h1⟩⟩
theorem vt_cs : SoundS Try.prog (ctrs [frC, vhC]) := ctrs_sound (by intro x hx; simp at hx; rcases hx with rfl | rfl; exact fr_ok; exact vh_ok)
theorem vt_ok : vtC.Ok Try.prog := by
  refine ⟨by kernel_rfl, fun x k hk => ?_⟩
  simp only [vtC] at hk
  split at hk
  · rename_i a b c d
    have hh := vt_true ⟨a, b, c, d⟩
    unfold vtG at hh
    exact ⟨_, Does.plain (funH_does vt_cs nilS_x nilS_ic mixed hh) trivial, hk⟩
  · exact hk.elim
theorem vd_true (d : De) : vdG d := by
  rw [vdG_vc]
  simp only [and_true, true_and, Nat.zero_lt_one, Bool.false_eq_true, false_iff, Classical.not_not]
  exact ⟨fun h h2 => h ⟨h2.w0, h2.w1⟩, fun h => ⟨fun h1 h2 => h1 ⟨h2.p0, h2.p1⟩, fun h1 => ⟨fun h2 => ⟨fun h3 => ⟨h.1, h.2, h2.1, h2.2, h3.1, h3.2, h1.1, h1.2⟩, fun h3 => ⟨h3.l0, h3.l1⟩⟩, fun h2 h3 => h2 ⟨h3.d0, h3.d1⟩⟩⟩⟩
theorem vd_ok : vdC.Ok Try.prog := by
  refine ⟨by kernel_rfl, fun x k hk => ?_⟩
  simp only [vdC] at hk
  split at hk
  · rename_i a b c d
    have hh := vd_true ⟨a, b, c, d⟩
    unfold vdG at hh
    exact ⟨_, Does.plain (funH_does fr_cs nilS_x nilS_ic mixed hh) trivial, hk⟩
  · exact hk.elim
theorem ct_true (T : Tl) (hn : T.n ≤ 1000) : ctG T := by
  rw [ctG_vc]
  simp only [rI, rE, and_true, true_and, Nat.zero_lt_one, Bool.false_eq_true, false_iff, Classical.not_not, implies_true, Int.toNat_natCast]
  refine ⟨fun h => by rw [erT, if_pos (by omega)], fun h => ⟨⟨0, ⟨by omega, fun i hi => by omega⟩, rfl⟩, fun z hz => ⟨fun hl => ⟨by omega, hl, fun h1 => ?_, fun h1 => ⟨by omega, z + 1, ⟨by omega, fun i hi => ?_⟩, by omega, by omega⟩⟩, fun hl => ?_⟩⟩⟩
  · rw [erT, if_neg (by omega), if_neg (fun hh => h1 (hh z (by omega)))]
  · by_cases e : i < z
    · exact hz.2 i e
    · have : i = z := by omega
      subst this; exact h1
  · rw [erT, if_neg (by omega), if_pos (show okTl T from fun i hi => hz.2 i (by omega))]
theorem ct_cs : SoundS Try.prog (ctrs [vtC]) := ctrs_sound (by intro x hx; simp at hx; subst hx; exact vt_ok)
theorem ct_ok : ctC.Ok Try.prog := by
  refine ⟨by kernel_rfl, fun x k hk => ?_⟩
  simp only [ctC] at hk
  split at hk
  · rename_i n f
    obtain ⟨hf, hn, hk⟩ := hk
    have hh := ct_true (tlOf n f) hn
    unfold ctG at hh
    rw [← hf] at hh
    exact ⟨_, Does.plain (funH_does ct_cs nilS_x nilS_ic mixed hh) trivial, hk⟩
  · exact hk.elim
theorem ca_true (d : De) (T : Tl) (hn : T.n ≤ 1000) : caG d T := by
  rw [caG_vc]
  simp only [tl_fold, sv_fold, and_true, true_and, Nat.zero_lt_one, Bool.false_eq_true, false_iff, Classical.not_not, implies_true]
  exact ⟨hn, fun h => by rw [erA, if_neg h], fun h => ⟨fun h1 => by rw [erA, if_pos h, if_neg h1], fun h1 => by rw [erA, if_pos h, if_pos h1]⟩⟩
theorem ca_cs : SoundS Try.prog (ctrs [vdC, ctC]) := ctrs_sound (by intro x hx; simp at hx; rcases hx with rfl | rfl; exact vd_ok; exact ct_ok)
theorem ca_ok : caC.Ok Try.prog := by
  refine ⟨by kernel_rfl, fun x k hk => ?_⟩
  simp only [caC] at hk
  split at hk
  · rename_i a b c d n f
    obtain ⟨hf, hn, hk⟩ := hk
    have hh := ca_true ⟨a, b, c, d⟩ (tlOf n f) hn
    unfold caG at hh
    rw [← hf] at hh
    exact ⟨_, Does.plain (funH_does ca_cs nilS_x nilS_ic mixed hh) trivial, hk⟩
  · exact hk.elim
end Go.Proofs.Ytgidaaogknikoaa

namespace Go.Proofs.Ytgidaaogknikoaa
open Go Go.Lg
attribute [local irreducible] bodyH funS
open Classical in
noncomputable def fiL (p : Nat → Prop) (m : Nat) : List Nat := (List.range m).filter fun k => decide (p k)
noncomputable def fiN (p : Nat → Prop) (m : Nat) : Nat := (fiL p m).length
noncomputable def sumJ (g : Nat → Int) : Nat → Int
  | 0 => 0
  | j + 1 => sumJ g j + g j
def inW (t : Tst) (hour hrs : Int) : Prop := hour - hrs < t.h ∧ t.h ≤ hour
noncomputable def winL (T : Tl) (hour hrs : Int) : List Nat := fiL (fun k => inW (T.f k) hour hrs) T.n
noncomputable def winN (T : Tl) (hour hrs : Int) : Nat := (winL T hour hrs).length
noncomputable def winT (T : Tl) (hour hrs : Int) (j : Nat) : Tst := T.f ((winL T hour hrs).getD j 0)
structure Oc where
  sum : Int
  by' : Int
  must : Int
  pay : Int
def Oc.cells (o : Oc) : List SV := [i6 o.sum, i6 o.by', i6 o.must, i6 o.pay]
def Oc.sv (o : Oc) : SV := .agg o.cells
theorem oc_fold (d : Oc) : Oc.mk d.sum d.by' d.must d.pay = d := rfl
noncomputable def allH : HSpec := { toLSpec := { σ := Unit, inv := fun _ => True, μ := fun _ => 0, nr := 0, ms := fun _ _ => [], t := fun _ => .nil, X := fun _ => ⟨0, .nil⟩, rd := fun _ _ k => k (), rdOK := fun _ _ _ h => ⟨(), h⟩ }, all := true }
def zOc : Oc := ⟨0, 0, 0, 0⟩
noncomputable def ocL (d : De) (T : Tl) (hour : Int) : Oc := ⟨sumJ (fun j => (winT T hour d.w j).lo) (winN T hour d.w), winN T hour d.w, d.d - d.sl, d.pay⟩
noncomputable def ocH (d : De) (T : Tl) (hour : Int) : Oc := ⟨sumJ (fun j => (winT T hour d.w j).hi) (winN T hour d.w), winN T hour d.w, d.d - d.sl, d.pay⟩
structure okOc (o : Oc) : Prop where
  s0 : 0 ≤ o.sum
  s1 : o.sum ≤ 1000000
  b0 : 0 ≤ o.by'
  b1 : o.by' ≤ 1000
  m0 : 0 ≤ o.must
  m1 : o.must ≤ 10000
  p0 : 0 ≤ o.pay
  p1 : o.pay ≤ 1000000
def keP (o : Oc) : Prop := o.must * o.by' ≤ o.sum
open Classical in
noncomputable def dueI (o : Oc) : Int := if keP o then 0 else ((o.must * o.by' - o.sum) * o.pay + o.by' - 1).tdiv o.by'
open Classical in
noncomputable def surI (a b : Oc) : Int := if keP a then 2 else if keP b then 1 else 0
open Classical in
noncomputable def erJ (d : De) (T : Tl) (hour : Int) : Int := if erA d T = 0 then (if 0 ≤ hour ∧ hour ≤ 1048576 then (if winN T hour d.w = 0 then 4 else 0) else 2) else erA d T
open Classical in
noncomputable def jL (d : De) (T : Tl) (hour : Int) : Oc := if erJ d T hour = 0 then ocL d T hour else zOc
open Classical in
noncomputable def jH (d : De) (T : Tl) (hour : Int) : Oc := if erJ d T hour = 0 then ocH d T hour else zOc
def cloW (T : Tl) (h p : Int) : SV := .clo (.func 73) [] [.ipt [T.sv], .ipt [i6 h], .ipt [i6 p]]
noncomputable def wdG (T : Tl) (h p : Int) : Prop := funH Try.prog (ctrs []) noX (ictrs []) noL noL 69 [T.sv, i6 h, i6 p] (cloW T h p)
def wdC : Ctr := ⟨69, fun args k => match args with
  | [.lst 4 n f, .int .i64 h, .int .i64 p] => SV.lst 4 n f = (tlOf n f).sv ∧ k (cloW (tlOf n f) h p)
  | _ => False⟩
noncomputable def wiG (T : Tl) (h p : Int) : Prop := itH Try.prog (ctrs []) noX (ictrs [])
  (oneL 0 (natH (fun i => i ≤ T.n) (fun i => T.n - i) 1 (fun i => mkF 32 [(0, .yld 0), (2, .ipt [i6 h]), (3, .ipt [i6 p]), (7, T.sv), (8, i6 T.n), (9, i6 i)]) (fun _ => ⟨1, .nil⟩) fun i => some (fiN (fun k => inW (T.f k) h p) i))) noL
  73 [] [.ipt [T.sv], .ipt [i6 h], .ipt [i6 p]] (winN T h p) fun j => [(winT T h p j).sv]
noncomputable def wiC : ICtr := ⟨73, fun fs us k => match fs, us with
  | [], [.ipt [.lst 4 n f], .ipt [.int .i64 h], .ipt [.int .i64 p]] => SV.lst 4 n f = (tlOf n f).sv ∧ n ≤ 1000 ∧ (0 ≤ h ∧ h ≤ 1100000) ∧ (0 ≤ p ∧ p ≤ 1100000) ∧ k (winN (tlOf n f) h p) 1 (fun j => [(winT (tlOf n f) h p j).sv])
  | _, _ => False⟩
noncomputable def ouG (d : De) (T : Tl) (h : Int) : Prop := funH Try.prog (ctrsF [wdC] (ctrs [])) noX (ictrs [wiC]) noL
  (oneL 0 (itS 5 (fun _ => True) (mkF 57 [(3, .ptr 0 0 0), (6, .ptr 1 0 0), (7, .ptr 2 0 0), (8, .ptr 3 0 0), (9, .ptr 4 0 0)]) (fun j => mkX [vr 4 d.sv, vr 4 zOc.sv, vr 4 zOc.sv, vr 2 (.agg [i6 (sumJ (fun j => (winT T h d.w j).lo) j), i6 (sumJ (fun j => (winT T h d.w j).hi) j)]), vr 1 (i6 j)]) fun _ => none))
  58 [d.sv, T.sv, i6 h] (.tup [(ocL d T h).sv, (ocH d T h).sv])
noncomputable def ouC : Ctr := ⟨58, fun args k => match args with
  | [.agg [.int .i64 a, .int .i64 b, .int .i64 c, .int .i64 d], .lst 4 n f, .int .i64 h] => SV.lst 4 n f = (tlOf n f).sv ∧ n ≤ 100 ∧ okDe ⟨a, b, c, d⟩ ∧ okTl (tlOf n f) ∧ (0 ≤ h ∧ h ≤ 1048576) ∧ k (.tup [(ocL ⟨a, b, c, d⟩ (tlOf n f) h).sv, (ocH ⟨a, b, c, d⟩ (tlOf n f) h).sv])
  | _ => False⟩
def alC : Ctr := ⟨70, fun args k => match args with
  | [.agg [.int .i64 a, .int .i64 b], .int .i64 n] => (0 ≤ b ∧ b ≤ 1000) ∧ (0 ≤ n ∧ n ≤ 10000) ∧ k (.dec (n * b ≤ a) (Classical.propDecidable _))
  | _ => False⟩
noncomputable def alG (a b n : Int) : Prop := funH Try.prog (ctrs []) noX (ictrs []) noL noL 70 [.agg [i6 a, i6 b], i6 n] (.dec (n * b ≤ a) (Classical.propDecidable _))
def ikC : Ctr := ⟨59, fun args k => match args with
  | [.agg [.int .i64 a, .int .i64 b, .int .i64 c, .int .i64 d]] => okOc ⟨a, b, c, d⟩ ∧ k (.dec (keP ⟨a, b, c, d⟩) (Classical.propDecidable _))
  | _ => False⟩
noncomputable def ikG (o : Oc) : Prop := funH Try.prog (ctrs [alC]) noX (ictrs []) noL noL 59 [o.sv] (.dec (keP o) (Classical.propDecidable _))
noncomputable def suC : Ctr := ⟨38, fun args k => match args with
  | [.agg [.int .i64 a, .int .i64 b, .int .i64 c, .int .i64 d], .agg [.int .i64 a', .int .i64 b', .int .i64 c', .int .i64 d']] => okOc ⟨a, b, c, d⟩ ∧ okOc ⟨a', b', c', d'⟩ ∧ k (i6 (surI ⟨a, b, c, d⟩ ⟨a', b', c', d'⟩))
  | _ => False⟩
noncomputable def suG (o o' : Oc) : Prop := funH Try.prog (ctrs [ikC]) noX (ictrs []) noL noL 38 [o.sv, o'.sv] (i6 (surI o o'))
def upC : Ctr := ⟨60, fun args k => match args with
  | [.agg [.int .i64 a, .int .i64 b]] => (0 ≤ a ∧ a ≤ 100000000000000) ∧ (1 ≤ b ∧ b ≤ 1000) ∧ k (i6 ((a + b - 1).tdiv b))
  | _ => False⟩
noncomputable def upG (a b : Int) : Prop := funH Try.prog (ctrs []) noX (ictrs []) noL noL 60 [.agg [i6 a, i6 b]] (i6 ((a + b - 1).tdiv b))
noncomputable def duC : Ctr := ⟨42, fun args k => match args with
  | [.agg [.int .i64 a, .int .i64 b, .int .i64 c, .int .i64 d]] => okOc ⟨a, b, c, d⟩ ∧ k (i6 (dueI ⟨a, b, c, d⟩))
  | _ => False⟩
noncomputable def duG (o : Oc) : Prop := funH Try.prog (ctrs [ikC, upC]) noX (ictrs []) noL noL 42 [o.sv] (i6 (dueI o))
noncomputable def juG (d : De) (T : Tl) (h : Int) : Prop := funH Try.prog (ctrs [caC, frC, ouC]) noX (ictrs []) (oneL 1009 allH) noL 37 [d.sv, T.sv, i6 h] (.tup [(jL d T h).sv, (jH d T h).sv, i6 (erJ d T h)])
noncomputable def juC : Ctr := ⟨37, fun args k => match args with
  | [.agg [.int .i64 a, .int .i64 b, .int .i64 c, .int .i64 d], .lst 4 n f, .int .i64 h] => SV.lst 4 n f = (tlOf n f).sv ∧ n ≤ 1000 ∧ k (.tup [(jL ⟨a, b, c, d⟩ (tlOf n f) h).sv, (jH ⟨a, b, c, d⟩ (tlOf n f) h).sv, i6 (erJ ⟨a, b, c, d⟩ (tlOf n f) h)])
  | _ => False⟩
open Classical in
noncomputable def dL (d : De) (T : Tl) (h : Int) : Int := if erJ d T h = 0 then dueI (ocH d T h) else 0
open Classical in
noncomputable def dH (d : De) (T : Tl) (h : Int) : Int := if erJ d T h = 0 then dueI (ocL d T h) else 0
noncomputable def deG (d : De) (T : Tl) (h : Int) : Prop := funH Try.prog (ctrs [juC, duC]) noX (ictrs []) noL noL 16 [d.sv, T.sv, i6 h] (.tup [.agg [i6 (dL d T h), i6 (dH d T h)], i6 (erJ d T h)])
noncomputable def deC : Ctr := ⟨16, fun args k => match args with
  | [.agg [.int .i64 a, .int .i64 b, .int .i64 c, .int .i64 d], .lst 4 n f, .int .i64 h] => SV.lst 4 n f = (tlOf n f).sv ∧ n ≤ 1000 ∧ k (.tup [.agg [i6 (dL ⟨a, b, c, d⟩ (tlOf n f) h), i6 (dH ⟨a, b, c, d⟩ (tlOf n f) h)], i6 (erJ ⟨a, b, c, d⟩ (tlOf n f) h)])
  | _ => False⟩
end Go.Proofs.Ytgidaaogknikoaa

set_option maxRecDepth 100000
namespace Go.Proofs.Ytgidaaogknikoaa
open Go Go.Lg
theorem wdG_vc (T : Tl) (h : Int) (p : Int) : wdG T h p =
 ((0 : Nat) < (1 : Nat) ∧
  T.1 = T.1 ∧
    (∀ (i : Nat), i < T.1 → (T.f i).sv.den = (T.f i).sv.den ∧ True ∧ True ∧ True ∧ True ∧ True) ∧
      (0 : Nat) < (1 : Nat) ∧ h = h ∧ (0 : Nat) < (1 : Nat) ∧ p = p ∧ True) := by kernel_rfl
theorem wiG_vc (T : Tl) (h : Int) (p : Int) : wiG T h p =
 ((∃ z, z ≤ T.1 ∧ (0 : Nat) = fiN (fun k => inW (T.f k) h p) z ∧ rE (SV.denL [i6 h]) ∧ (True ∧ True) ∧ rE (SV.denL [i6 p]) ∧ (True ∧ True) ∧ T.1 = T.1 ∧ (∀ (i : Nat), i < T.1 → rE ((T.f i).sv.den) ∧ True ∧ True ∧ True ∧ True ∧ True) ∧ rE (↑T.1 : Int) ∧ (0 : Int) = (↑z : Int) ∧ True) ∧ ∀ (z : Nat), z ≤ T.1 → ((↑z : Int) < (↑T.1 : Int) → (0 : Int) ≤ (↑z : Int) ∧ (↑z : Int) < (↑T.1 : Int) ∧ (0 : Nat) < (1 : Nat) ∧ rI (h - p) ∧ (h - p < (T.f (↑z : Int).toNat).1 → (0 : Nat) < (1 : Nat) ∧ ((T.f (↑z : Int).toNat).1 ≤ h → (0 : Nat) < (1 : Nat) ∧ fiN (fun k => inW (T.f k) h p) z < winN T h p ∧ (T.f (↑z : Int).toNat).1 = (winT T h p (fiN (fun k => inW (T.f k) h p) z)).1 ∧ (T.f (↑z : Int).toNat).2 = (winT T h p (fiN (fun k => inW (T.f k) h p) z)).2 ∧ (T.f (↑z : Int).toNat).3 = (winT T h p (fiN (fun k => inW (T.f k) h p) z)).3 ∧ (T.f (↑z : Int).toNat).4 = (winT T h p (fiN (fun k => inW (T.f k) h p)
 z)).4 ∧ (rI ((↑z : Int) + (1 : Int)) ∧ ∃ z_1, z_1 ≤ T.1 ∧ T.1 - z_1 < T.1 - z ∧ (fiN (fun k => inW (T.f k) h p) z).succ = fiN (fun k => inW (T.f k) h p) z_1 ∧ rE (SV.denL [i6 h]) ∧ (True ∧ True) ∧ rE (SV.denL [i6 p]) ∧ (True ∧ True) ∧ T.1 = T.1 ∧ (∀ (i : Nat), i < T.1 → rE ((T.f i).sv.den) ∧ True ∧ True ∧ True ∧ True ∧ True) ∧ rE (↑T.1 : Int) ∧ (↑z : Int) + (1 : Int) = (↑z_1 : Int) ∧ True) ∧ True) ∧ (¬(T.f (↑z : Int).toNat).1 ≤ h → rI ((↑z : Int) + (1 : Int)) ∧ ∃ z_1, z_1 ≤ T.1 ∧ T.1 - z_1 < T.1 - z ∧ fiN (fun k => inW (T.f k) h p) z = fiN (fun k => inW (T.f k) h p) z_1 ∧ rE (SV.denL [i6 h]) ∧ (True ∧ True) ∧ rE (SV.denL [i6 p]) ∧ (True ∧ True) ∧ T.1 = T.1 ∧ (∀ (i : Nat), i < T.1 → rE ((T.f i).sv.den) ∧ True ∧ True ∧ True ∧ True ∧ True) ∧ rE (↑T.1 : Int) ∧ (↑z : Int) + (1 : Int) = (↑z_1 : Int) ∧ True)) ∧ (¬h - p < (T.f (↑z : Int).toNat).1 → rI ((↑z : Int) + (1 : Int)) ∧ ∃ z_1, z_1 ≤ T.1
 ∧ T.1 - z_1 < T.1 - z ∧ fiN (fun k => inW (T.f k) h p) z = fiN (fun k => inW (T.f k) h p) z_1 ∧ rE (SV.denL [i6 h]) ∧ (True ∧ True) ∧ rE (SV.denL [i6 p]) ∧ (True ∧ True) ∧ T.1 = T.1 ∧ (∀ (i : Nat), i < T.1 → rE ((T.f i).sv.den) ∧ True ∧ True ∧ True ∧ True ∧ True) ∧ rE (↑T.1 : Int) ∧ (↑z : Int) + (1 : Int) = (↑z_1 : Int) ∧ True)) ∧ (¬(↑z : Int) < (↑T.1 : Int) → fiN (fun k => inW (T.f k) h p) z = winN T h p)) := by kernel_rfl
theorem ouG_vc (d : De) (T : Tl) (h : Int) : ouG d T h =
 ((0 : Nat) < (1 : Nat) ∧ (∀ (i : Nat), i < T.1 → True ∧ True ∧ True ∧ True ∧ True) ∧ rE T.sv ∧ (∀ (i : Nat), i < T.1 → True ∧ True ∧ True ∧ True ∧ True) ∧ rE T.sv ∧ T.1 ≤ (1000 : Nat) ∧ ((0 : Int) ≤ h ∧ h ≤ (1100000 : Int)) ∧ ((0 : Int) ≤ d.1 ∧ d.1 ≤ (1100000 : Int)) ∧ (((∀ (i : Nat), i < T.1 → True ∧ True ∧ True ∧ True ∧ True) ∧ True) ∧ (True ∧ True) ∧ (True ∧ True) ∧ ∃ z, (z = (0 : Nat) ∧ True) ∧ rE (0 : Nat) ∧ rE (0 : Nat) ∧ rE (0 : Nat) ∧ rE (0 : Nat) ∧ rE (0 : Nat) ∧ rE (0 : Nat) ∧ rE (0 : Nat) ∧ rE (0 : Nat) ∧ rE (0 : Nat) ∧ rE (0 : Nat) ∧ rE (Fn.func (73 : FuncId)) ∧ rE (SV.denL [T.sv]) ∧ ((∀ (i : Nat), i < T.1 → True ∧ True ∧ True ∧ True ∧ True) ∧ True) ∧ SV.denL [i6 h] = SV.denL [SV.int IntKind.i64 h] ∧ (True ∧ True) ∧ SV.denL [i6 d.w] = SV.denL [SV.int IntKind.i64 d.w] ∧ (True ∧ True) ∧ d.1 = d.1 ∧ d.2 = d.2 ∧ d.3 = d.3 ∧ d.4 = d.4 ∧ rE (0 : Int) ∧ rE (0 : Int) ∧ rE (0 : Int) ∧
 rE (0 : Int) ∧ rE (0 : Int) ∧ rE (0 : Int) ∧ rE (0 : Int) ∧ rE (0 : Int) ∧ (0 : Int) = sumJ (fun j => (winT T h d.w j).lo) z ∧ (0 : Int) = sumJ (fun j => (winT T h d.w j).hi) z ∧ (0 : Int) = (↑z : Int) ∧ True) ∧ (∀ (j : Nat), j < winN T h d.1 → ∀ (z : Nat), z = j ∧ True → (0 : Nat) < (1 : Nat) ∧ (0 : Nat) < (1 : Nat) ∧ rI (sumJ (fun j => (winT T h d.w j).lo) z + (T.f ((winL T h d.w).getD j (0 : Nat))).3) ∧ (0 : Nat) < (1 : Nat) ∧ (0 : Nat) < (1 : Nat) ∧ rI (sumJ (fun j => (winT T h d.w j).hi) z + (T.f ((winL T h d.w).getD j (0 : Nat))).4) ∧ (0 : Nat) < (1 : Nat) ∧ rI ((↑z : Int) + (1 : Int)) ∧ ∃ z_1, (z_1 = j.succ ∧ True) ∧ d.1 = d.1 ∧ d.2 = d.2 ∧ d.3 = d.3 ∧ d.4 = d.4 ∧ rE (0 : Int) ∧ rE (0 : Int) ∧ rE (0 : Int) ∧ rE (0 : Int) ∧ rE (0 : Int) ∧ rE (0 : Int) ∧ rE (0 : Int) ∧ rE (0 : Int) ∧ sumJ (fun j => (winT T h d.w j).lo) z + (T.f ((winL T h d.w).getD j (0 : Nat))).3 = sumJ (fun j =>
 (winT T h d.w j).lo) z_1 ∧ sumJ (fun j => (winT T h d.w j).hi) z + (T.f ((winL T h d.w).getD j (0 : Nat))).4 = sumJ (fun j => (winT T h d.w j).hi) z_1 ∧ (↑z : Int) + (1 : Int) = (↑z_1 : Int) ∧ True) ∧ ∀ (z : Nat), z = winN T h d.1 ∧ True → (0 : Nat) < (1 : Nat) ∧ (0 : Nat) < (1 : Nat) ∧ rI (d.2 - d.3) ∧ (0 : Nat) < (1 : Nat) ∧ (0 : Nat) < (1 : Nat) ∧ (0 : Nat) < (1 : Nat) ∧ (0 : Nat) < (1 : Nat) ∧ (0 : Nat) < (1 : Nat) ∧ (0 : Nat) < (1 : Nat) ∧ ((0 : Nat) < (1 : Nat) ∧ ((0 : Nat) < (1 : Nat) ∧ (((0 : Nat) < (1 : Nat) ∧ (0 : Nat) < (1 : Nat) ∧ sumJ (fun j => (winT T h d.w j).lo) z = sumJ (fun j => (winT T h d.w j).lo) (winN T h d.1) ∧ (↑z : Int) = (↑(winN T h d.1) : Int) ∧ rE (d.2 - d.3) ∧ d.4 = d.4 ∧ sumJ (fun j => (winT T h d.w j).hi) z = sumJ (fun j => (winT T h d.w j).hi) (winN T h d.1) ∧ (↑z : Int) = (↑(winN T h d.1) : Int) ∧ rE (d.2 - d.3) ∧ d.4 = d.4 ∧ True) ∧ True) ∧ True) ∧ (((0
 : Nat) < (1 : Nat) ∧ ((0 : Nat) < (1 : Nat) ∧ (0 : Nat) < (1 : Nat) ∧ sumJ (fun j => (winT T h d.w j).lo) z = sumJ (fun j => (winT T h d.w j).lo) (winN T h d.1) ∧ (↑z : Int) = (↑(winN T h d.1) : Int) ∧ rE (d.2 - d.3) ∧ d.4 = d.4 ∧ sumJ (fun j => (winT T h d.w j).hi) z = sumJ (fun j => (winT T h d.w j).hi) (winN T h d.1) ∧ (↑z : Int) = (↑(winN T h d.1) : Int) ∧ rE (d.2 - d.3) ∧ d.4 = d.4 ∧ True) ∧ True) ∧ True) ∧ True) ∧ ((0 : Nat) < (1 : Nat) ∧ ((0 : Nat) < (1 : Nat) ∧ (((0 : Nat) < (1 : Nat) ∧ (0 : Nat) < (1 : Nat) ∧ sumJ (fun j => (winT T h d.w j).lo) z = sumJ (fun j => (winT T h d.w j).lo) (winN T h d.1) ∧ (↑z : Int) = (↑(winN T h d.1) : Int) ∧ rE (d.2 - d.3) ∧ d.4 = d.4 ∧ sumJ (fun j => (winT T h d.w j).hi) z = sumJ (fun j => (winT T h d.w j).hi) (winN T h d.1) ∧ (↑z : Int) = (↑(winN T h d.1) : Int) ∧ rE (d.2 - d.3) ∧ d.4 = d.4 ∧ True) ∧ True) ∧ True) ∧ True) ∧ True) := by kernel_rfl
theorem alG_vc (a : Int) (b : Int) (n : Int) : alG a b n =
 ((0 : Nat) < (1 : Nat) ∧
  (0 : Nat) < (1 : Nat) ∧
    ((-9223372036854775808 : Int) ≤ n * b ∧ n * b ≤ (9223372036854775807 : Int)) ∧ (n * b ≤ a ↔ n * b ≤ a) ∧ True) := by kernel_rfl
theorem ikG_vc (o : Oc) : ikG o =
 ((0 : Nat) < (1 : Nat) ∧
  (0 : Nat) < (1 : Nat) ∧
    ((0 : Int) ≤ o.2 ∧ o.2 ≤ (1000 : Int)) ∧ ((0 : Int) ≤ o.3 ∧ o.3 ≤ (10000 : Int)) ∧ (o.3 * o.2 ≤ o.1 ↔ keP o) ∧ True) := by kernel_rfl
theorem suG_vc (o : Oc) (o' : Oc) : suG o o' =
 ((0 : Nat) < (1 : Nat) ∧
  okOc o ∧
    (keP o → (2 : Int) = surI o o' ∧ True) ∧
      (¬keP o →
        (0 : Nat) < (1 : Nat) ∧
          okOc o' ∧ (keP o' → (1 : Int) = surI o o' ∧ True) ∧ (¬keP o' → (0 : Int) = surI o o' ∧ True))) := by kernel_rfl
theorem upG_vc (a : Int) (b : Int) : upG a b =
 ((0 : Nat) < (1 : Nat) ∧
  (0 : Nat) < (1 : Nat) ∧
    ((-9223372036854775808 : Int) ≤ a + b ∧ a + b ≤ (9223372036854775807 : Int)) ∧
      ((-9223372036854775808 : Int) ≤ a + b - (1 : Int) ∧ a + b - (1 : Int) ≤ (9223372036854775807 : Int)) ∧
        (0 : Nat) < (1 : Nat) ∧
          (b = (0 : Int) → False) ∧
            ((-9223372036854775808 : Int) ≤ (a + b - (1 : Int)).tdiv b ∧
                (a + b - (1 : Int)).tdiv b ≤ (9223372036854775807 : Int)) ∧
              (a + b - (1 : Int)).tdiv b = (a + b - (1 : Int)).tdiv b ∧ True) := by kernel_rfl
theorem duG_vc (o : Oc) : duG o =
 ((0 : Nat) < (1 : Nat) ∧
  okOc o ∧
    (keP o → (0 : Int) = dueI o ∧ True) ∧
      (¬keP o →
        (0 : Nat) < (1 : Nat) ∧
          (0 : Nat) < (1 : Nat) ∧
            ((-9223372036854775808 : Int) ≤ o.3 * o.2 ∧ o.3 * o.2 ≤ (9223372036854775807 : Int)) ∧
              (0 : Nat) < (1 : Nat) ∧
                ((-9223372036854775808 : Int) ≤ o.3 * o.2 - o.1 ∧ o.3 * o.2 - o.1 ≤ (9223372036854775807 : Int)) ∧
                  (0 : Nat) < (1 : Nat) ∧
                    ((-9223372036854775808 : Int) ≤ (o.3 * o.2 - o.1) * o.4 ∧
                        (o.3 * o.2 - o.1) * o.4 ≤ (9223372036854775807 : Int)) ∧
                      (0 : Nat) < (1 : Nat) ∧
                        ((0 : Int) ≤ (o.3 * o.2 - o.1) * o.4 ∧ (o.3 * o.2 - o.1) * o.4 ≤ (100000000000000 : Int)) ∧
                          ((1 : Int) ≤ o.2 ∧ o.2 ≤ (1000 : Int)) ∧
                            ((o.3 * o.2 - o.1) * o.4 + o.2 - (1 : Int)).tdiv o.2 = dueI o ∧ True)) := by kernel_rfl
theorem juG_vc (d : De) (T : Tl) (h : Int) : juG d T h =
 ((0 : Nat) < (1 : Nat) ∧ (∀ (i : Nat), i < T.1 → True ∧ True ∧ True ∧ True ∧ True) ∧ rE T.sv ∧ T.1 ≤ (1000 : Nat) ∧ (¬erA d T = (0 : Int) → (0 : Nat) < (1 : Nat) ∧ (0 : Nat) < (1 : Nat) ∧ (0 : Int) = (jL d T h).1 ∧ (0 : Int) = (jL d T h).2 ∧ (0 : Int) = (jL d T h).3 ∧ (0 : Int) = (jL d T h).4 ∧ (0 : Int) = (jH d T h).1 ∧ (0 : Int) = (jH d T h).2 ∧ (0 : Int) = (jH d T h).3 ∧ (0 : Int) = (jH d T h).4 ∧ erA d T = erJ d T h ∧ True) ∧ (¬¬erA d T = (0 : Int) → (¬((0 : Int) ≤ h ∧ h ≤ (1048576 : Int)) → (0 : Nat) < (1 : Nat) ∧ (0 : Nat) < (1 : Nat) ∧ (0 : Int) = (jL d T h).1 ∧ (0 : Int) = (jL d T h).2 ∧ (0 : Int) = (jL d T h).3 ∧ (0 : Int) = (jL d T h).4 ∧ (0 : Int) = (jH d T h).1 ∧ (0 : Int) = (jH d T h).2 ∧ (0 : Int) = (jH d T h).3 ∧ (0 : Int) = (jH d T h).4 ∧ (2 : Int) = erJ d T h ∧ True) ∧ (¬¬((0 : Int) ≤ h ∧ h ≤ (1048576 : Int)) → (0 : Nat) < (1 : Nat) ∧ (∀ (i : Nat), i < T.1 → True ∧ True
 ∧ True ∧ True ∧ True) ∧ rE T.sv ∧ T.1 ≤ (100 : Nat) ∧ okDe d ∧ okTl T ∧ ((0 : Int) ≤ h ∧ h ≤ (1048576 : Int)) ∧ (0 : Nat) < (1 : Nat) ∧ ((↑(winN T h d.1) : Int) = (0 : Int) → (0 : Nat) < (1 : Nat) ∧ (0 : Nat) < (1 : Nat) ∧ (0 : Int) = (jL d T h).1 ∧ (0 : Int) = (jL d T h).2 ∧ (0 : Int) = (jL d T h).3 ∧ (0 : Int) = (jL d T h).4 ∧ (0 : Int) = (jH d T h).1 ∧ (0 : Int) = (jH d T h).2 ∧ (0 : Int) = (jH d T h).3 ∧ (0 : Int) = (jH d T h).4 ∧ (4 : Int) = erJ d T h ∧ True) ∧ (¬(↑(winN T h d.1) : Int) = (0 : Int) → ((0 : Nat) < (1 : Nat) ∧ ((0 : Nat) < (1 : Nat) ∧ ((((0 : Nat) < (1 : Nat) ∧ (0 : Nat) < (1 : Nat) ∧ sumJ (fun j => (winT T h d.w j).lo) (winN T h d.1) = (jL d T h).1 ∧ (↑(winN T h d.1) : Int) = (jL d T h).2 ∧ d.2 - d.3 = (jL d T h).3 ∧ d.4 = (jL d T h).4 ∧ sumJ (fun j => (winT T h d.w j).hi) (winN T h d.1) = (jH d T h).1 ∧ (↑(winN T h d.1) : Int) = (jH d T h).2 ∧ d.2 - d.3 = (jH d T
 h).3 ∧ d.4 = (jH d T h).4 ∧ (0 : Int) = erJ d T h ∧ True) ∧ True) ∧ True) ∧ True) ∧ (((0 : Nat) < (1 : Nat) ∧ (((0 : Nat) < (1 : Nat) ∧ (0 : Nat) < (1 : Nat) ∧ sumJ (fun j => (winT T h d.w j).lo) (winN T h d.1) = (jL d T h).1 ∧ (↑(winN T h d.1) : Int) = (jL d T h).2 ∧ d.2 - d.3 = (jL d T h).3 ∧ d.4 = (jL d T h).4 ∧ sumJ (fun j => (winT T h d.w j).hi) (winN T h d.1) = (jH d T h).1 ∧ (↑(winN T h d.1) : Int) = (jH d T h).2 ∧ d.2 - d.3 = (jH d T h).3 ∧ d.4 = (jH d T h).4 ∧ (0 : Int) = erJ d T h ∧ True) ∧ True) ∧ True) ∧ True) ∧ True) ∧ ((0 : Nat) < (1 : Nat) ∧ ((0 : Nat) < (1 : Nat) ∧ ((((0 : Nat) < (1 : Nat) ∧ (0 : Nat) < (1 : Nat) ∧ sumJ (fun j => (winT T h d.w j).lo) (winN T h d.1) = (jL d T h).1 ∧ (↑(winN T h d.1) : Int) = (jL d T h).2 ∧ d.2 - d.3 = (jL d T h).3 ∧ d.4 = (jL d T h).4 ∧ sumJ (fun j => (winT T h d.w j).hi) (winN T h d.1) = (jH d T h).1 ∧ (↑(winN T h d.1) : Int) = (jH d T
 h).2 ∧ d.2 - d.3 = (jH d T h).3 ∧ d.4 = (jH d T h).4 ∧ (0 : Int) = erJ d T h ∧ True) ∧ True) ∧ True) ∧ True) ∧ True) ∧ True)))) := by kernel_rfl
theorem deG_vc (d : De) (T : Tl) (h : Int) : deG d T h =
 ((0 : Nat) < (1 : Nat) ∧
  (∀ (i : Nat), i < T.1 → True ∧ True ∧ True ∧ True ∧ True) ∧
    T.sv = T.sv ∧
      T.1 ≤ (1000 : Nat) ∧
        (¬erJ d T h = (0 : Int) →
            (0 : Nat) < (1 : Nat) ∧ (0 : Int) = dL d T h ∧ (0 : Int) = dH d T h ∧ erJ d T h = erJ d T h ∧ True) ∧
          (¬¬erJ d T h = (0 : Int) →
            (0 : Nat) < (1 : Nat) ∧
              okOc (jH d T h) ∧
                (0 : Nat) < (1 : Nat) ∧
                  okOc (jL d T h) ∧
                    (0 : Nat) < (1 : Nat) ∧
                      dueI (jH d T h) = dL d T h ∧ dueI (jL d T h) = dH d T h ∧ (0 : Int) = erJ d T h ∧ True)) := by kernel_rfl
end Go.Proofs.Ytgidaaogknikoaa

set_option maxRecDepth 100000
namespace Go.Proofs.Ytgidaaogknikoaa
open Go Go.Lg
attribute [local irreducible] funS bodyH
open Classical in
theorem fiL_succ (p : Nat → Prop) (m : Nat) : fiL p (m + 1) = fiL p m ++ (if p m then [m] else []) := by
  unfold fiL
  rw [List.range_succ, List.filter_append]
  congr 1
  by_cases h : p m <;> simp [h]
theorem fiN_yes {p : Nat → Prop} {m : Nat} (h : p m) : fiN p (m + 1) = fiN p m + 1 := by
  unfold fiN; rw [fiL_succ, if_pos h]; simp
theorem fiN_no {p : Nat → Prop} {m : Nat} (h : ¬ p m) : fiN p (m + 1) = fiN p m := by
  unfold fiN; rw [fiL_succ, if_neg h]; simp
theorem fi_get {p : Nat → Prop} {z : Nat} (hz : p z) : ∀ {m : Nat}, z < m → fiN p z < (fiL p m).length ∧ (fiL p m).getD (fiN p z) 0 = z
  | 0, h => by omega
  | m + 1, h => by
    rw [fiL_succ, List.length_append]
    rcases Nat.lt_succ_iff_lt_or_eq.1 h with h' | rfl
    · obtain ⟨h1, h2⟩ := fi_get hz h'
      refine ⟨by omega, ?_⟩
      have e : ∀ l2 : List Nat, (fiL p m ++ l2).getD (fiN p z) 0 = (fiL p m).getD (fiN p z) 0 := fun l2 => by simp [List.getD, List.getElem?_append_left h1]
      rw [e]; exact h2
    · rw [if_pos hz]
      refine ⟨by simp [fiN], ?_⟩
      simp [List.getD, fiN]
theorem fi_mem {p : Nat → Prop} {m j : Nat} (h : j < (fiL p m).length) : (fiL p m).getD j 0 < m ∧ p ((fiL p m).getD j 0) := by
  have e : (fiL p m).getD j 0 = (fiL p m)[j] := by simp [List.getD, h]
  rw [e]
  have := List.getElem_mem h
  unfold fiL at this ⊢
  rw [List.mem_filter] at this
  simpa using this
theorem fiN_le (p : Nat → Prop) (m : Nat) : (fiL p m).length ≤ m := by
  unfold fiL
  exact Nat.le_trans (List.length_filter_le _ _) (by simp)
theorem win_get {T : Tl} {h p : Int} {z : Nat} (hz : inW (T.f z) h p) (hl : z < T.n) : fiN (fun k => inW (T.f k) h p) z < winN T h p ∧ winT T h p (fiN (fun k => inW (T.f k) h p) z) = T.f z := by
  obtain ⟨h1, h2⟩ := fi_get (p := fun k => inW (T.f k) h p) hz hl
  exact ⟨h1, by unfold winT winL; rw [h2]⟩
theorem wi_true (T : Tl) (h p : Int) (hn : T.n ≤ 1000) (hh : 0 ≤ h ∧ h ≤ 1100000) (hp : 0 ≤ p ∧ p ≤ 1100000) : wiG T h p := by
  rw [wiG_vc]
  simp only [rI, rE, tt3, tt4, tt5, tt13, tt14, and_true, true_and, Nat.zero_lt_one, implies_true, Int.toNat_natCast]
  refine ⟨⟨0, by omega, rfl, rfl⟩, fun z hz => ⟨fun hl => ⟨by omega, hl, by omega, fun h1 => ⟨fun h2 => ?_, fun h2 => ?_⟩, fun h1 => ?_⟩, fun hl => ?_⟩⟩
  · have hw : inW (T.f z) h p := ⟨h1, h2⟩
    obtain ⟨g1, g2⟩ := win_get hw (by omega)
    rw [g2]
    exact ⟨g1, rfl, rfl, rfl, rfl, by omega, z + 1, by omega, by omega, (fiN_yes (p := fun k => inW (T.f k) h p) hw).symm, by omega⟩
  · exact ⟨by omega, z + 1, by omega, by omega, (fiN_no (p := fun k => inW (T.f k) h p) fun hw => h2 hw.2).symm, by omega⟩
  · exact ⟨by omega, z + 1, by omega, by omega, (fiN_no (p := fun k => inW (T.f k) h p) fun hw => h1 hw.1).symm, by omega⟩
  · have : z = T.n := by omega
    subst this; rfl
theorem wd_true (T : Tl) (h p : Int) : wdG T h p := by
  rw [wdG_vc]
  simp
theorem wd_ok : wdC.OkF Try.prog := by
  refine ⟨by kernel_rfl, fun x k hk => ?_⟩
  simp only [wdC] at hk
  split at hk
  · rename_i n f h p
    obtain ⟨hf, hk⟩ := hk
    have hh := wd_true (tlOf n f) h p
    unfold wdG at hh
    rw [← hf] at hh
    exact ⟨_, funH_does nilS_cs nilS_x nilS_ic mixed hh, hk⟩
  · exact hk.elim
theorem wi_ok : wiC.Ok Try.prog := by
  refine ⟨by kernel_rfl, fun fs us k hk => ?_⟩
  simp only [wiC] at hk
  split at hk
  · rename_i n f h p
    obtain ⟨hf, h1, h2, h3, hk⟩ := hk
    have hh := wi_true (tlOf n f) h p h1 h2 h3
    unfold wiG at hh
    rw [← hf] at hh
    exact ⟨_, _, _, itH_ok nilS_cs (fun _ _ _ => noX_sound) nilS_ic mixed hh, fun j _ => rfl, hk⟩
  · exact hk.elim
theorem wi_ic : SoundIH Try.prog (ictrs [wiC]) := ictrs_sound (by intro x hx; simp at hx; subst hx; exact wi_ok)
theorem wd_cs : SoundS Try.prog (ctrsF [wdC] (ctrs [])) := ctrsF_sound nilS_cs (by intro x hx; simp at hx; subst hx; exact wd_ok)
theorem sum_bd {g : Nat → Int} {B : Int} : ∀ {m : Nat}, (∀ j, j < m → 0 ≤ g j ∧ g j ≤ B) → 0 ≤ sumJ g m ∧ sumJ g m ≤ m * B
  | 0, _ => by simp [sumJ]
  | m + 1, h => by
    have h1 := sum_bd (g := g) (B := B) (m := m) fun j hj => h j (by omega)
    have h2 := h m (by omega)
    have : ((m + 1 : Nat) : Int) * B = m * B + B := by push_cast; rw [Int.add_mul, Int.one_mul]
    rw [this]
    show 0 ≤ sumJ g m + g m ∧ sumJ g m + g m ≤ _
    omega
theorem win_ok {T : Tl} {h p : Int} {j : Nat} (ht : okTl T) (hj : j < winN T h p) : okTs (winT T h p j) := ht _ (fi_mem (p := fun k => inW (T.f k) h p) hj).1
theorem winN_le (T : Tl) (h p : Int) : winN T h p ≤ T.n := fiN_le _ _
theorem ou_true {d : De} {T : Tl} {h : Int} (hn : T.n ≤ 100) (hd : okDe d) (ht : okTl T) (hh : 0 ≤ h ∧ h ≤ 1048576) : ouG d T h := by
  rw [ouG_vc]
  simp only [rI, rE, tt3, tt4, tt5, tt13, tt14, and_true, true_and, Nat.zero_lt_one, implies_true, and_self]
  have d1 := hd.w0
  have d2 := hd.w1
  have d3 := hd.d0
  have d4 := hd.d1
  have d5 := hd.l0
  have d6 := hd.l1
  have hw := winN_le T h d.w
  refine ⟨by omega, by omega, by omega, ⟨0, rfl, rfl, rfl, rfl⟩, fun j hj z hz => ?_, fun z hz => ?_⟩
  · subst hz
    have b1 := sum_bd (g := fun j => (winT T h d.w j).lo) (B := 10000) (m := z) fun i hi => by
      have := (win_ok (j := i) ht (by omega : i < winN T h d.w)).sp
      exact ⟨this.a, show (winT T h d.w i).lo ≤ 10000 from Int.le_trans this.b this.c⟩
    have b2 := sum_bd (g := fun j => (winT T h d.w j).hi) (B := 10000) (m := z) fun i hi => by
      have := (win_ok (j := i) ht (by omega : i < winN T h d.w)).sp
      exact ⟨show 0 ≤ (winT T h d.w i).hi from Int.le_trans this.a this.b, this.c⟩
    have b3 := (win_ok (j := z) ht hj).sp
    have b4 := b3.a
    have b5 := b3.b
    have b6 := b3.c
    have e1 : (T.f ((winL T h d.w).getD z 0)).3 = (winT T h d.w z).lo := rfl
    have e2 : (T.f ((winL T h d.w).getD z 0)).4 = (winT T h d.w z).hi := rfl
    rw [e1, e2]
    exact ⟨by omega, by omega, by omega, z + 1, rfl, rfl, rfl, by omega⟩
  · subst hz
    exact ⟨by omega, rfl, rfl, rfl, rfl⟩
theorem ou_ok : ouC.Ok Try.prog := by
  refine ⟨by kernel_rfl, fun x k hk => ?_⟩
  simp only [ouC] at hk
  split at hk
  · rename_i a b c d n f h
    obtain ⟨hf, h1, h2, h3, h4, hk⟩ := hk
    have hh := ou_true (d := ⟨a, b, c, d⟩) (T := tlOf n f) h1 h2 h3 h4
    unfold ouG at hh
    rw [← hf] at hh
    exact ⟨_, Does.plain (funH_does wd_cs nilS_x wi_ic mixed hh) (by simp [plainS, plainS.plainL, Oc.sv, Oc.cells]), hk⟩
  · exact hk.elim
theorem mul_bd {a b A B : Int} (h1 : 0 ≤ a) (h2 : a ≤ A) (h3 : 0 ≤ b) (h4 : b ≤ B) : 0 ≤ a * b ∧ a * b ≤ A * B := ⟨Int.mul_nonneg h1 h3, Int.mul_le_mul h2 h4 h3 (by omega)⟩
theorem al_true {a b n : Int} (hb : 0 ≤ b ∧ b ≤ 1000) (hn : 0 ≤ n ∧ n ≤ 10000) : alG a b n := by
  rw [alG_vc]
  simp only [rI, rE, and_true, true_and, Nat.zero_lt_one]
  have := mul_bd hn.1 hn.2 hb.1 hb.2
  omega
theorem al_ok : alC.Ok Try.prog := by
  refine ⟨by kernel_rfl, fun x k hk => ?_⟩
  simp only [alC] at hk
  split at hk
  · rename_i a b n
    obtain ⟨h1, h2, hk⟩ := hk
    have hh := al_true (a := a) h1 h2
    unfold alG at hh
    exact ⟨_, Does.plain (funH_does nilS_cs nilS_x nilS_ic mixed hh) trivial, hk⟩
  · exact hk.elim
theorem al_cs : SoundS Try.prog (ctrs [alC]) := ctrs_sound (by intro x hx; simp at hx; subst hx; exact al_ok)
theorem ik_true {o : Oc} (h : okOc o) : ikG o := by
  rw [ikG_vc]
  simp only [rI, rE, and_true, true_and, Nat.zero_lt_one]
  exact ⟨⟨h.b0, h.b1⟩, ⟨h.m0, h.m1⟩, Iff.rfl⟩
theorem ik_ok : ikC.Ok Try.prog := by
  refine ⟨by kernel_rfl, fun x k hk => ?_⟩
  simp only [ikC] at hk
  split at hk
  · rename_i a b c d
    obtain ⟨h1, hk⟩ := hk
    have hh := ik_true h1
    unfold ikG at hh
    exact ⟨_, Does.plain (funH_does al_cs nilS_x nilS_ic mixed hh) trivial, hk⟩
  · exact hk.elim
theorem ik_cs : SoundS Try.prog (ctrs [ikC]) := ctrs_sound (by intro x hx; simp at hx; subst hx; exact ik_ok)
theorem su_true {o o' : Oc} (h : okOc o) (h' : okOc o') : suG o o' := by
  rw [suG_vc]
  simp only [rI, rE, and_true, true_and, Nat.zero_lt_one, oc_fold]
  exact ⟨h, fun h1 => by rw [surI, if_pos h1], fun h1 => ⟨h', fun h2 => by rw [surI, if_neg h1, if_pos h2], fun h2 => by rw [surI, if_neg h1, if_neg h2]⟩⟩
theorem su_ok : suC.Ok Try.prog := by
  refine ⟨by kernel_rfl, fun x k hk => ?_⟩
  simp only [suC] at hk
  split at hk
  · rename_i a b c d a' b' c' d'
    obtain ⟨h1, h2, hk⟩ := hk
    have hh := su_true h1 h2
    unfold suG at hh
    exact ⟨_, Does.plain (funH_does ik_cs nilS_x nilS_ic mixed hh) trivial, hk⟩
  · exact hk.elim
theorem tdiv_bd {a b : Int} (h : 0 ≤ a) (hb : 1 ≤ b) : 0 ≤ a.tdiv b ∧ a.tdiv b ≤ a := by
  rw [Int.tdiv_eq_ediv_of_nonneg h]
  exact ⟨Int.ediv_nonneg h (by omega), Int.ediv_le_self _ h⟩
theorem up_true {a b : Int} (ha : 0 ≤ a ∧ a ≤ 100000000000000) (hb : 1 ≤ b ∧ b ≤ 1000) : upG a b := by
  rw [upG_vc]
  simp only [rI, rE, and_true, true_and, Nat.zero_lt_one]
  have := tdiv_bd (a := a + b - 1) (b := b) (by omega) hb.1
  refine ⟨by omega, by omega, fun h => by omega, by omega⟩
theorem up_ok : upC.Ok Try.prog := by
  refine ⟨by kernel_rfl, fun x k hk => ?_⟩
  simp only [upC] at hk
  split at hk
  · rename_i a b
    obtain ⟨h1, h2, hk⟩ := hk
    have hh := up_true h1 h2
    unfold upG at hh
    exact ⟨_, Does.plain (funH_does nilS_cs nilS_x nilS_ic mixed hh) trivial, hk⟩
  · exact hk.elim
theorem du_true {o : Oc} (h : okOc o) : duG o := by
  rw [duG_vc]
  simp only [rI, rE, and_true, true_and, Nat.zero_lt_one]
  refine ⟨h, fun h1 => by rw [dueI, if_pos h1], fun h1 => ?_⟩
  have b := mul_bd h.m0 h.m1 h.b0 h.b1
  have h1' : o.sum < o.must * o.by' := by unfold keP at h1; omega
  have s0 := h.s0
  have p := mul_bd (a := o.must * o.by' - o.sum) (A := 10000 * 1000) (by omega) (by omega) h.p0 h.p1
  have hb : 1 ≤ o.by' := by
    rcases Int.lt_or_le o.by' 1 with h2 | h2
    · have : o.by' = 0 := by have := h.b0; omega
      rw [this, Int.mul_zero] at h1'; omega
    · exact h2
  exact ⟨by omega, by omega, by omega, by omega, ⟨hb, h.b1⟩, by rw [dueI, if_neg h1]⟩
theorem du_cs : SoundS Try.prog (ctrs [ikC, upC]) := ctrs_sound (by intro x hx; simp at hx; rcases hx with rfl | rfl; exact ik_ok; exact up_ok)
theorem du_ok : duC.Ok Try.prog := by
  refine ⟨by kernel_rfl, fun x k hk => ?_⟩
  simp only [duC] at hk
  split at hk
  · rename_i a b c d
    obtain ⟨h1, hk⟩ := hk
    have hh := du_true h1
    unfold duG at hh
    exact ⟨_, Does.plain (funH_does du_cs nilS_x nilS_ic mixed hh) trivial, hk⟩
  · exact hk.elim
theorem erA_ok {d : De} {T : Tl} (h : erA d T = 0) : T.n ≤ 32 ∧ okTl T ∧ okDe d := by
  unfold erA at h
  split at h
  · rename_i h1
    split at h
    · rename_i h2
      unfold erT at h1
      split at h1
      · omega
      · split at h1
        · rename_i h3 h4
          exact ⟨by omega, h4, h2⟩
        · omega
    · omega
  · rename_i h1; exact absurd h h1
theorem erJ_ok {d : De} {T : Tl} {h : Int} (he : erJ d T h = 0) : erA d T = 0 ∧ (0 ≤ h ∧ h ≤ 1048576) ∧ winN T h d.w ≠ 0 := by
  unfold erJ at he
  split at he
  · rename_i h1
    split at he
    · rename_i h2
      split at he
      · omega
      · rename_i h3
        exact ⟨h1, h2, h3⟩
    · omega
  · rename_i h1; exact absurd he h1
theorem ocL_ok {d : De} {T : Tl} {h : Int} (hn : T.n ≤ 100) (hd : okDe d) (ht : okTl T) : okOc (ocL d T h) ∧ okOc (ocH d T h) := by
  have hw := winN_le T h d.w
  have b1 := sum_bd (g := fun j => (winT T h d.w j).lo) (B := 10000) (m := winN T h d.w) fun i hi => by
    have := (win_ok (j := i) ht hi).sp
    exact ⟨this.a, show (winT T h d.w i).lo ≤ 10000 from Int.le_trans this.b this.c⟩
  have b2 := sum_bd (g := fun j => (winT T h d.w j).hi) (B := 10000) (m := winN T h d.w) fun i hi => by
    have := (win_ok (j := i) ht hi).sp
    exact ⟨show 0 ≤ (winT T h d.w i).hi from Int.le_trans this.a this.b, this.c⟩
  have d3 := hd.d0
  have d4 := hd.d1
  have d5 := hd.l0
  have d6 := hd.l1
  refine ⟨⟨b1.1, ?_, ?_, ?_, ?_, ?_, hd.p0, hd.p1⟩, ⟨b2.1, ?_, ?_, ?_, ?_, ?_, hd.p0, hd.p1⟩⟩ <;> simp only [ocL, ocH] <;> omega
theorem ju_true {d : De} {T : Tl} {h : Int} (hn : T.n ≤ 1000) : juG d T h := by
  rw [juG_vc]
  simp only [rI, rE, and_true, true_and, Nat.zero_lt_one, implies_true, and_self, Classical.not_not]
  refine ⟨hn, fun h1 => ?_, fun h1 => ⟨fun h2 => ?_, fun h2 => ?_⟩⟩
  · have e : erJ d T h = erA d T := by rw [erJ, if_neg h1]
    have n0 : ¬ erJ d T h = 0 := by rw [e]; exact h1
    rw [jL, jH, if_neg n0, if_neg n0, e]
    exact ⟨rfl, rfl, rfl, rfl, rfl, rfl, rfl, rfl, rfl⟩
  · have e : erJ d T h = 2 := by rw [erJ, if_pos h1, if_neg h2]
    have n0 : ¬ erJ d T h = 0 := by rw [e]; omega
    rw [jL, jH, if_neg n0, if_neg n0, e]
    exact ⟨rfl, rfl, rfl, rfl, rfl, rfl, rfl, rfl, rfl⟩
  · obtain ⟨k1, k2, k3⟩ := erA_ok h1
    refine ⟨by omega, k3, k2, h2, fun h3 => ?_, fun h3 => ?_⟩
    · have e : erJ d T h = 4 := by rw [erJ, if_pos h1, if_pos h2, if_pos (by omega)]
      have n0 : ¬ erJ d T h = 0 := by rw [e]; omega
      rw [jL, jH, if_neg n0, if_neg n0, e]
      exact ⟨rfl, rfl, rfl, rfl, rfl, rfl, rfl, rfl, rfl⟩
    · have e : erJ d T h = 0 := by rw [erJ, if_pos h1, if_pos h2, if_neg (by omega)]
      rw [jL, jH, if_pos e, if_pos e, e]
      exact ⟨rfl, rfl, rfl, rfl, rfl, rfl, rfl, rfl, rfl⟩
theorem ju_cs : SoundS Try.prog (ctrs [caC, frC, ouC]) := ctrs_sound (by intro x hx; simp at hx; rcases hx with rfl | rfl | rfl; exact ca_ok; exact fr_ok; exact ou_ok)
theorem ju_ok : juC.Ok Try.prog := by
  refine ⟨by kernel_rfl, fun x k hk => ?_⟩
  simp only [juC] at hk
  split at hk
  · rename_i a b c d n f h
    obtain ⟨hf, h1, hk⟩ := hk
    have hh := ju_true (d := ⟨a, b, c, d⟩) (T := tlOf n f) (h := h) h1
    unfold juG at hh
    rw [← hf] at hh
    exact ⟨_, Does.plain (funH_does ju_cs nilS_x nilS_ic mixed hh) (by simp [plainS, plainS.plainL, Oc.sv, Oc.cells]), hk⟩
  · exact hk.elim
theorem j_ok {d : De} {T : Tl} {h : Int} (he : erJ d T h = 0) : jL d T h = ocL d T h ∧ jH d T h = ocH d T h ∧ okOc (ocL d T h) ∧ okOc (ocH d T h) := by
  obtain ⟨h1, _, _⟩ := erJ_ok he
  obtain ⟨k1, k2, k3⟩ := erA_ok h1
  obtain ⟨o1, o2⟩ := ocL_ok (h := h) (by omega : T.n ≤ 100) k3 k2
  exact ⟨by rw [jL, if_pos he], by rw [jH, if_pos he], o1, o2⟩
theorem de_true {d : De} {T : Tl} {h : Int} (hn : T.n ≤ 1000) : deG d T h := by
  rw [deG_vc]
  simp only [rI, rE, and_true, true_and, Nat.zero_lt_one, implies_true, and_self, Classical.not_not]
  refine ⟨hn, fun h1 => ⟨by rw [dL, if_neg h1], by rw [dH, if_neg h1]⟩, fun h1 => ?_⟩
  obtain ⟨e1, e2, o1, o2⟩ := j_ok h1
  rw [e1, e2, dL, dH, if_pos h1, if_pos h1]
  exact ⟨o2, o1, rfl, rfl, h1.symm⟩
theorem de_cs : SoundS Try.prog (ctrs [juC, duC]) := ctrs_sound (by intro x hx; simp at hx; rcases hx with rfl | rfl; exact ju_ok; exact du_ok)
theorem de_ok : deC.Ok Try.prog := by
  refine ⟨by kernel_rfl, fun x k hk => ?_⟩
  simp only [deC] at hk
  split at hk
  · rename_i a b c d n f h
    obtain ⟨hf, h1, hk⟩ := hk
    have hh := de_true (d := ⟨a, b, c, d⟩) (T := tlOf n f) (h := h) h1
    unfold deG at hh
    rw [← hf] at hh
    exact ⟨_, Does.plain (funH_does de_cs nilS_x nilS_ic mixed hh) (by simp [plainS, plainS.plainL]), hk⟩
  · exact hk.elim
end Go.Proofs.Ytgidaaogknikoaa
