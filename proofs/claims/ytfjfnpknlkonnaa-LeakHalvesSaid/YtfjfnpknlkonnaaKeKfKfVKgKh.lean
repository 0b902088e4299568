import Derived.Test.YtfjfnpknlkonnaaKaKaVKbKcKcVKd
set_option linter.unusedVariables false
set_option linter.unusedSimpArgs false
set_option maxRecDepth 100000
namespace Go.Proofs.Ytfjfnpknlkonnaa
open Go Go.Lg
attribute [local irreducible] bodyH
theorem mixed : Try.prog.follows .mixedOrders = true := by kernel_rfl
noncomputable def ag1X (x : SV) (su ca n : Int) : Prop := funH Try.prog (ctrs [isInC]) noX (ictrs []) noL noL 57 [i6 n, .ipt [x, i6 su, i6 ca]] (.dec (¬ inP n ca) (Classical.propDecidable _))
noncomputable def ag2X (x : SV) (su ca n : Int) : Prop := funH Try.prog (ctrs [isInC]) noX (ictrs []) noL noL 58 [i6 n, .ipt [x, i6 su, i6 ca]] (.dec (inP n su) (Classical.propDecidable _))
theorem ag1X_vc (x : SV) (su ca n : Int) : ag1X x su ca n = (((0 : Int) ≤ n ∧ n ≤ (64 : Int)) ∧ (¬inP n ca ↔ ¬inP n ca) ∧ True) := by kernel_rfl
theorem ag2X_vc (x : SV) (su ca n : Int) : ag2X x su ca n = (((0 : Int) ≤ n ∧ n ≤ (64 : Int)) ∧ (inP n su ↔ inP n su) ∧ True) := by kernel_rfl
section
attribute [local irreducible] funS
theorem nilS_x {γ : GS → noGhost.S} : SoundXH Try.prog noGhost γ noX := noX_sound
theorem nilS_ic : SoundIH Try.prog (ictrs []) := ictrs_sound (by intro x hx; simp at hx)
theorem nilS_cs : SoundS Try.prog (ctrs []) := ctrs_sound (by intro x hx; simp at hx)
theorem isIn_ok : isInC.Ok Try.prog := by
  refine ⟨by kernel_rfl, fun x k hk => ?_⟩
  simp only [isInC] at hk
  split at hk
  · rename_i n s
    obtain ⟨h, hk⟩ := hk
    have hh := isIn_true (s := s) h
    unfold isInG at hh
    exact ⟨_, Does.plain (funH_does nilS_cs nilS_x nilS_ic mixed hh) trivial, hk⟩
  · exact hk.elim
theorem isIn_cs : SoundS Try.prog (ctrs [isInC]) := ctrs_sound (by intro x hx; simp at hx; subst hx; exact isIn_ok)
theorem ag1_ok : (agC 57 true).Ok Try.prog := by
  refine ⟨by kernel_rfl, fun x k hk => ?_⟩
  simp only [agC] at hk
  split at hk
  · rename_i n x s a
    obtain ⟨h, hk⟩ := hk
    have hh : ag1X x s a n := by rw [ag1X_vc]; exact ⟨h, Iff.rfl, trivial⟩
    unfold ag1X at hh
    exact ⟨_, Does.plain (funH_does isIn_cs nilS_x nilS_ic mixed hh) trivial, hk⟩
  · exact hk.elim
theorem ag2_ok : (agC 58 false).Ok Try.prog := by
  refine ⟨by kernel_rfl, fun x k hk => ?_⟩
  simp only [agC] at hk
  split at hk
  · rename_i n x s a
    obtain ⟨h, hk⟩ := hk
    have hh : ag2X x s a n := by rw [ag2X_vc]; exact ⟨h, Iff.rfl, trivial⟩
    unfold ag2X at hh
    exact ⟨_, Does.plain (funH_does isIn_cs nilS_x nilS_ic mixed hh) trivial, hk⟩
  · exact hk.elim
theorem ag1_cs : SoundS Try.prog (ctrs [agC 57 true]) := ctrs_sound (by intro x hx; simp at hx; subst hx; exact ag1_ok)
theorem ag2_cs : SoundS Try.prog (ctrs [agC 58 false]) := ctrs_sound (by intro x hx; simp at hx; subst hx; exact ag2_ok)
theorem with1_does {t : Nat → Int} {c : Cl} (ht : okT t) (hc : c.g = true) : Does Try.prog 46 false (SV.denL [T12 t, fndV c 57]) (T12 (wt t c 12)).den := by
  have hh := with_true ht hc
  unfold withG at hh
  exact funH_does ag1_cs nilS_x nilS_ic mixed hh
theorem with2_does {t : Nat → Int} {c : Cl} (ht : okT t) (hc : ¬ c.g = true) : Does Try.prog 46 false (SV.denL [T12 t, fndV c 58]) (T12 (wt t c 12)).den := by
  have hh := with2_true ht hc
  unfold withG2 at hh
  exact funH_does ag2_cs nilS_x nilS_ic mixed hh
end
end Go.Proofs.Ytfjfnpknlkonnaa

namespace Go.Proofs.Ytfjfnpknlkonnaa
open Go Go.Lg
attribute [local irreducible] bodyH
theorem rdU (t : FS) (X : XS) (k : Unit → Prop) (h : k ()) : ∃ s, k s := ⟨(), h⟩
noncomputable def regH (nr : Nat) (ms : FS → XS → Ms) (t : FS) (X : XS) (D E : DS) (nb : Option Nat) : HSpec :=
  { toLSpec := { σ := Unit, inv := fun _ => True, μ := fun _ => 0, nr := nr, ms := ms, t := fun _ => t, X := fun _ => X, rd := fun _ _ k => k (), rdOK := rdU }, D := D, E := E, nb := nb }
def fndB (b : Bool) (g : FuncId) (s a : Int) : SV := .agg [.clo (.func g) [] [.ipt [.bool b, i6 s, i6 a]]]
noncomputable def fo1G (s a : Int) : Prop := funH Try.prog (ctrs []) noX (ictrs []) noL noL 47 [.agg [.bool true, i6 s, i6 a]] (fndB true 57 s a)
noncomputable def fo2G (s a : Int) : Prop := funH Try.prog (ctrs []) noX (ictrs []) noL noL 47 [.agg [.bool false, i6 s, i6 a]] (fndB false 58 s a)
def foC : Ctr := ⟨47, fun args k => match args with
  | [.agg [x, .int .i64 s, .int .i64 a]] => (match x with
    | .bool true => k (fndB true 57 s a)
    | .bool false => k (fndB false 58 s a)
    | .dec p _ => (p → k (fndB true 57 s a)) ∧ (¬ p → k (fndB false 58 s a))
    | _ => False)
  | _ => False⟩
noncomputable def findL (x : SV) (s a : Int) : Nat → Option HSpec :=
  oneL 1001 (regH 2 (fun t _ => match sget 14 t 3, sget 14 t 4 with
      | .ptr r _ _, .ptr s _ _ => [some r, some s]
      | _, _ => []) (mkF 14 [(1, .ptr 0 0 0), (2, .ptr 1 0 0), (3, .ptr 2 0 0), (4, .ptr 3 0 0)]) (mkX [vr 3 (.agg [x, i6 s, i6 a]), vr 2 (.agg [.val .nilFunc, .val .nilFunc]), vr 3 (.agg [x, i6 s, i6 a]), vr 3 (.agg [x, i6 s, i6 a])]) [(0, 0), (1, 0), (4, 2), (5, 2)] [] (some 2))
def hole2 (s a : Int) : SV := .agg [.clo (.func 57) [] [.ipt [.bool true, i6 s, i6 a]], .clo (.func 58) [] [.ipt [.bool false, i6 s, i6 a]]]
noncomputable def findG (p : Prop) (h : Decidable p) (s a : Int) : Prop := funH Try.prog (ctrsF [foC] (ctrs [])) noX (ictrs []) (findL (.dec p h) s a) noL 48 [.agg [.dec p h, i6 s, i6 a]] (hole2 s a)
end Go.Proofs.Ytfjfnpknlkonnaa

set_option maxRecDepth 100000
namespace Go.Proofs.Ytfjfnpknlkonnaa
open Go Go.Lg
theorem fo1G_vc (s : Int) (a : Int) : fo1G s a = ((0 : Nat) < (1 : Nat) ∧ (0 : Nat) < (1 : Nat) ∧ (0 : Nat) < (1 : Nat) ∧ true = true ∧ s = s ∧ a = a ∧ True) := by kernel_rfl
theorem fo2G_vc (s : Int) (a : Int) : fo2G s a = ((0 : Nat) < (1 : Nat) ∧ (0 : Nat) < (1 : Nat) ∧ (0 : Nat) < (1 : Nat) ∧ false = false ∧ s = s ∧ a = a ∧ True) := by kernel_rfl
theorem findG_vc (p : Prop) (h : Decidable p) (s : Int) (a : Int) : findG p h s a = ((True ∧ (0 : Nat) < (1 : Nat) ∧ True ∧ (0 : Nat) < (1 : Nat) ∧ (True ∧ True ∧ True ∧ True ∧ True ∧ (0 : Nat) = (0 : Nat) ∧ (0 : Nat) = (0 : Nat) ∧ (0 : Nat) = (0 : Nat) ∧ (0 : Nat) = (0 : Nat) ∧ (0 : Nat) = (0 : Nat) ∧ (0 : Nat) = (0 : Nat) ∧ (0 : Nat) = (0 : Nat) ∧ (0 : Nat) = (0 : Nat) ∧ (p ↔ p) ∧ s = s ∧ a = a ∧ Value.nilFunc = Value.nilFunc ∧ Value.nilFunc = Value.nilFunc ∧ (p ↔ p) ∧ s = s ∧ a = a ∧ (p ↔ p) ∧ s = s ∧ a = a ∧ True) ∧ (True ∧ True ∧ True ∧ True ∧ True ∧ (0 : Nat) = (0 : Nat) ∧ (0 : Nat) = (0 : Nat) ∧ (0 : Nat) = (0 : Nat) ∧ (0 : Nat) = (0 : Nat) ∧ (0 : Nat) = (0 : Nat) ∧ (0 : Nat) = (0 : Nat) ∧ (0 : Nat) = (0 : Nat) ∧ (0 : Nat) = (0 : Nat) ∧ (p ↔ p) ∧ s = s ∧ a = a ∧ Value.nilFunc = Value.nilFunc ∧ Value.nilFunc = Value.nilFunc ∧ (p ↔ p) ∧ s = s ∧ a = a ∧ (p ↔ p) ∧ s = s ∧ a = a ∧ True) ∧ True) ∧ ∀ (z : Unit), True → (0 : Nat) < (1 : Nat) ∧ (0 : Nat) < (1 : Nat) ∧ (0 : Nat) < (1 : Nat) ∧ SV.denL [SV.bool true, i6 s, i6 a] = SV.denL [SV.bool true, i6 s, i6 a] ∧ (True ∧ True ∧ True ∧ True) ∧ SV.denL [SV.bool false, i6 s, i6 a] = SV.denL [SV.bool false, i6 s, i6 a] ∧ (True ∧ True ∧ True ∧ True) ∧ True) := by kernel_rfl
end Go.Proofs.Ytfjfnpknlkonnaa

set_option maxRecDepth 100000
namespace Go.Proofs.Ytfjfnpknlkonnaa
open Go Go.Lg
attribute [local irreducible] funS bodyH
theorem fo1_true (s a : Int) : fo1G s a := by
  rw [fo1G_vc]
  exact ⟨by omega, by omega, by omega, rfl, rfl, rfl, trivial⟩
theorem fo2_true (s a : Int) : fo2G s a := by
  rw [fo2G_vc]
  exact ⟨by omega, by omega, by omega, rfl, rfl, rfl, trivial⟩
theorem find_true (p : Prop) (h : Decidable p) (s a : Int) : findG p h s a := by
  rw [findG_vc]
  simp
theorem fo1_does (s a : Int) : Does Try.prog 47 false (SV.denL [.agg [.bool true, i6 s, i6 a]]) (fndB true 57 s a).den := by
  have hh := fo1_true s a
  unfold fo1G at hh
  exact funH_does nilS_cs nilS_x nilS_ic mixed hh
theorem fo2_does (s a : Int) : Does Try.prog 47 false (SV.denL [.agg [.bool false, i6 s, i6 a]]) (fndB false 58 s a).den := by
  have hh := fo2_true s a
  unfold fo2G at hh
  exact funH_does nilS_cs nilS_x nilS_ic mixed hh
theorem fo_ok : foC.OkF Try.prog := by
  refine ⟨by kernel_rfl, fun x k hk => ?_⟩
  simp only [foC] at hk
  split at hk
  · rename_i x s a
    split at hk
    · exact ⟨_, fo1_does s a, hk⟩
    · exact ⟨_, fo2_does s a, hk⟩
    · rename_i p inst
      by_cases hp : p
      · refine ⟨_, ?_, hk.1 hp⟩
        have e : SV.denL [.agg [.dec p inst, .int .i64 s, .int .i64 a]] = SV.denL [.agg [.bool true, i6 s, i6 a]] := by
          simp only [SV.denL, SV.den, @decide_eq_true p inst hp]
        rw [e]; exact fo1_does s a
      · refine ⟨_, ?_, hk.2 hp⟩
        have e : SV.denL [.agg [.dec p inst, .int .i64 s, .int .i64 a]] = SV.denL [.agg [.bool false, i6 s, i6 a]] := by
          simp only [SV.denL, SV.den, @decide_eq_false p inst hp]
        rw [e]; exact fo2_does s a
    · exact hk.elim
  · exact hk.elim
theorem fo_cs : SoundS Try.prog (ctrsF [foC] (ctrs [])) := ctrsF_sound nilS_cs (by intro x hx; simp at hx; subst hx; exact fo_ok)
theorem find_does (p : Prop) (h : Decidable p) (s a : Int) : Does Try.prog 48 false (SV.denL [.agg [.dec p h, i6 s, i6 a]]) (hole2 s a).den := by
  have hh := find_true p h s a
  unfold findG at hh
  exact funH_does fo_cs nilS_x nilS_ic mixed hh
def findC : Ctr := ⟨48, fun args k => match args with
  | [.agg [.dec _ _, .int .i64 s, .int .i64 a]] => k (hole2 s a)
  | _ => False⟩
theorem find_ok : findC.OkF Try.prog := by
  refine ⟨by kernel_rfl, fun x k hk => ?_⟩
  simp only [findC] at hk
  split at hk
  · exact ⟨_, find_does _ _ _ _, hk⟩
  · exact hk.elim
def f12 (a0 a1 a2 a3 a4 a5 a6 a7 a8 a9 a10 a11 : Int) (i : Nat) : Int := [a0, a1, a2, a3, a4, a5, a6, a7, a8, a9, a10, a11].getD i 0
def t12 (t : Nat → Int) : Nat → Int := f12 (t 0) (t 1) (t 2) (t 3) (t 4) (t 5) (t 6) (t 7) (t 8) (t 9) (t 10) (t 11)
def withC : Ctr := ⟨46, fun args k => match args with
  | [.agg [.int .i64 a0, .int .i64 a1, .int .i64 a2, .int .i64 a3, .int .i64 a4, .int .i64 a5, .int .i64 a6, .int .i64 a7, .int .i64 a8, .int .i64 a9, .int .i64 a10, .int .i64 a11], .agg [.clo (.func g) [] [.ipt [.bool b, .int .i64 s, .int .i64 a]]]] =>
    okT (f12 a0 a1 a2 a3 a4 a5 a6 a7 a8 a9 a10 a11) ∧ (match b with
      | true => g = 57
      | false => g = 58) ∧ k (T12 (wt (f12 a0 a1 a2 a3 a4 a5 a6 a7 a8 a9 a10 a11) ⟨b, s, a⟩ 12))
  | _ => False⟩
theorem with_ok : withC.OkF Try.prog := by
  refine ⟨by kernel_rfl, fun x k hk => ?_⟩
  simp only [withC] at hk
  split at hk
  · rename_i a0 a1 a2 a3 a4 a5 a6 a7 a8 a9 a10 a11 g b s a
    obtain ⟨ht, hg, hk⟩ := hk
    cases b with
    | true =>
      obtain rfl : g = 57 := hg
      exact ⟨_, with1_does (c := ⟨true, s, a⟩) ht rfl, hk⟩
    | false =>
      obtain rfl : g = 58 := hg
      exact ⟨_, with2_does (c := ⟨false, s, a⟩) ht (by simp), hk⟩
  · exact hk.elim
end Go.Proofs.Ytfjfnpknlkonnaa

namespace Go.Proofs.Ytfjfnpknlkonnaa
open Go Go.Lg
attribute [local irreducible] bodyH
def Cs.cl (c : Cs) (k : Nat) : Cl := ⟨c.g k, c.su k, c.ca k⟩
def Cs.sv (c : Cs) : SV := .lst 3 c.n fun k => .agg [.dec (c.g k = true) inferInstance, i6 (c.su k), i6 (c.ca k)]
noncomputable def tal (c : Cs) : Nat → Nat → Int
  | 0, _ => 0
  | k + 1, i => tal c k i + agN (c.cl k) i
structure Sq where
  ma : Int
  wr : Int
  cl : Cs
  ho : Cs
def Sq.sv (v : Sq) : SV := .agg [i6 v.ma, i6 v.wr, v.cl.sv, v.ho.sv]
def iqW (ma wr : Int) (fo : Nat → Int) (h : SV) : SV := .agg [i6 ma, i6 wr, i6 (fo 0), i6 (fo 1), i6 (fo 2), i6 (fo 3), i6 (fo 4), i6 (fo 5), i6 (fo 6), i6 (fo 7), i6 (fo 8), i6 (fo 9), i6 (fo 10), i6 (fo 11), h]
def nilS : SV := .val (.slice none 0 0)
def holR (h : Cs) : Nat → SV := fun k => hole2 (h.su k) (h.ca k)
def z57 : SV := iqW 0 0 (fun _ => 0) nilS
noncomputable def newL (v : Sq) : Nat → Option HSpec :=
  twoL 0 (natH (fun k => k ≤ v.cl.n) (fun k => v.cl.n - k) 3 (fun k => mkF 43 [(1, .ptr 0 0 0), (2, .ptr 1 0 0), (3, .ptr 2 0 0), (14, v.cl.sv), (15, i6 v.cl.n), (16, i6 k)]) (fun k => mkX [vr 4 v.sv, vr 15 z57, vr 15 (iqW v.ma v.wr (tal v.cl k) nilS)]) fun _ => none) <|
  oneL 2 { toLSpec := {
    σ := Nat, inv := fun k => k ≤ v.ho.n, μ := fun k => v.ho.n - k, nr := 3
    ms := fun _ X => match X.row 2 with
      | some R => (match R.f 0 with
        | .agg l => (match List.getD l 14 .any with
          | .sl r _ _ => [some r]
          | _ => [])
        | _ => [])
      | none => []
    t := fun k => mkF 43 [(1, .ptr 0 0 0), (2, .ptr 1 0 0), (3, .ptr 2 0 0), (28, v.ho.sv), (29, i6 v.ho.n), (30, i6 k)]
    X := fun k => mkX [vr 4 v.sv, vr 15 z57, vr 15 (iqW v.ma v.wr (tal v.cl v.cl.n) (.sl 3 0 k)), some ⟨2, k, holR v.ho, false⟩]
    rd := fun t X k => match sget 43 t 30 with
      | .int _ z => k z.toNat
      | _ => False
    rdOK := rdI
    peel := some (v.ho.n + 1) } }
noncomputable def csN : CSpec := ctrsF [foC, findC, withC] (ctrs [])
noncomputable def newG (v : Sq) : Prop := funH Try.prog csN noX (ictrs []) (newL v) noL 33 [v.sv] (iqW v.ma v.wr (tal v.cl v.cl.n) (hoV v.ho))
end Go.Proofs.Ytfjfnpknlkonnaa
