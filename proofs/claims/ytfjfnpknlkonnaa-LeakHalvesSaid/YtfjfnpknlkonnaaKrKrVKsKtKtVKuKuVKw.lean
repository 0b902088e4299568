import Derived.Test.YtfjfnpknlkonnaaKlKlVKmKmVKoKpKpVKq
set_option linter.unusedVariables false
set_option linter.unusedSimpArgs false
namespace Go.Proofs.Ytfjfnpknlkonnaa
open Go Go.Lg
attribute [local irreducible] bodyH
def pw (k : Nat) : Int := 2 ^ k
def hasP (s n : Int) : Prop := (s.tdiv (pw n.toNat)).tmod 2 = 1
noncomputable def powG (n : Int) : Prop := funH Try.prog (ctrs []) noX (ictrs [])
  (oneL 0 (natH (fun k => k ≤ n.toNat) (fun k => n.toNat - k) 0 (fun k => mkF 13 [(0, i6 n), (3, i6 (pw k)), (4, i6 k)]) (fun _ => mkX []) fun _ => none)) noL 44 [i6 n] (i6 (pw n.toNat))
def powC : Ctr := ⟨44, fun args k => match args with
  | [.int .i64 n] => (0 ≤ n ∧ n ≤ 12) ∧ k (i6 (pw n.toNat))
  | _ => False⟩
noncomputable def inG (n a b : Int) : Prop := funH Try.prog (ctrs []) noX (ictrs []) noL noL 38 [i6 n, i6 a, i6 b] (.dec (a ≤ n ∧ n ≤ b) inferInstance)
def inC : Ctr := ⟨38, fun args k => match args with
  | [.int .i64 n, .int .i64 a, .int .i64 b] => k (.dec (a ≤ n ∧ n ≤ b) inferInstance)
  | _ => False⟩
noncomputable def hasG (s n : Int) : Prop := funH Try.prog (ctrs [powC]) noX (ictrs []) noL noL 27 [i6 s, i6 n] (.dec (hasP s n) (Classical.propDecidable _))
end Go.Proofs.Ytfjfnpknlkonnaa

set_option maxRecDepth 100000
namespace Go.Proofs.Ytfjfnpknlkonnaa
open Go Go.Lg
theorem powG_vc (n : Int) : powG n = ((∃ (z : Nat), z ≤ n.toNat ∧ n = n ∧ (1 : Int) = pw z ∧ (0 : Int) = (↑z : Int) ∧ True) ∧ ∀ (z : Nat), z ≤ n.toNat → ((↑z : Int) < n → ((-9223372036854775808 : Int) ≤ (2 : Int) * pw z ∧ (2 : Int) * pw z ≤ (9223372036854775807 : Int)) ∧ ((-9223372036854775808 : Int) ≤ (↑z : Int) + (1 : Int) ∧ (↑z : Int) + (1 : Int) ≤ (9223372036854775807 : Int)) ∧ ∃ (z_1 : Nat), z_1 ≤ n.toNat ∧ n.toNat - z_1 < n.toNat - z ∧ n = n ∧ (2 : Int) * pw z = pw z_1 ∧ (↑z : Int) + (1 : Int) = (↑z_1 : Int) ∧ True) ∧ (¬(↑z : Int) < n → pw z = pw n.toNat ∧ True)) := by kernel_rfl
theorem inG_vc (n : Int) (a : Int) (b : Int) : inG n a b = ((a ≤ n → (n ≤ b ↔ a ≤ n ∧ n ≤ b) ∧ True) ∧ (¬a ≤ n → (false = true ↔ a ≤ n ∧ n ≤ b) ∧ True)) := by kernel_rfl
theorem hasG_vc (s : Int) (n : Int) : hasG s n = (((0 : Int) ≤ n ∧ n ≤ (12 : Int)) ∧ (pw n.toNat = (0 : Int) → False) ∧ ((-9223372036854775808 : Int) ≤ s.tdiv (pw n.toNat) ∧ s.tdiv (pw n.toNat) ≤ (9223372036854775807 : Int)) ∧ ((2 : Int) = (0 : Int) → False) ∧ ((s.tdiv (pw n.toNat)).tmod (2 : Int) = (1 : Int) ↔ hasP s n) ∧ True) := by kernel_rfl
end Go.Proofs.Ytfjfnpknlkonnaa

set_option maxRecDepth 100000
namespace Go.Proofs.Ytfjfnpknlkonnaa
open Go Go.Lg
attribute [local irreducible] funS bodyH
theorem pw_succ (k : Nat) : 2 * pw k = pw (k + 1) := by unfold pw; rw [Int.pow_succ, Int.mul_comm]
theorem pw_13 {z : Nat} (h : z ≤ 12) : 1 ≤ pw z ∧ pw z ≤ 4096 := by
  have : z = 0 ∨ z = 1 ∨ z = 2 ∨ z = 3 ∨ z = 4 ∨ z = 5 ∨ z = 6 ∨ z = 7 ∨ z = 8 ∨ z = 9 ∨ z = 10 ∨ z = 11 ∨ z = 12 := by omega
  rcases this with rfl | rfl | rfl | rfl | rfl | rfl | rfl | rfl | rfl | rfl | rfl | rfl | rfl <;> decide
theorem pow_true {n : Int} (h : 0 ≤ n ∧ n ≤ 12) : powG n := by
  rw [powG_vc]
  simp only [and_true, true_and]
  refine ⟨⟨0, by omega, rfl, rfl⟩, fun z hz => ⟨fun hl => ?_, fun hl => ?_⟩⟩
  · have := pw_13 (z := z) (by omega)
    exact ⟨by omega, by omega, z + 1, by omega, by omega, pw_succ z, by omega⟩
  · have : z = n.toNat := by omega
    rw [this]
theorem in_true (n a b : Int) : inG n a b := by
  rw [inG_vc]
  refine ⟨fun h => ⟨⟨fun h2 => ⟨h, h2⟩, fun h2 => h2.2⟩, trivial⟩, fun h => ⟨⟨fun h2 => by simp at h2, fun h2 => absurd h2.1 h⟩, trivial⟩⟩
def i64P (s : Int) : Prop := -9223372036854775808 ≤ s ∧ s ≤ 9223372036854775807
theorem has_true {s n : Int} (hs : i64P s) (h : 0 ≤ n ∧ n ≤ 12) : hasG s n := by
  rw [hasG_vc]
  have hp := pw_13 (z := n.toNat) (by omega)
  have h1 := Int.natAbs_tdiv_le_natAbs s (pw n.toNat)
  have h2 := Int.natAbs_tdiv s (pw n.toNat)
  unfold i64P at hs
  refine ⟨h, fun e => by omega, ⟨?_, ?_⟩, fun e => by omega, Iff.rfl, trivial⟩
  · omega
  · by_cases e : 0 ≤ s
    · omega
    · have : s.tdiv (pw n.toNat) ≤ 0 := by
        have := Int.tdiv_nonneg (a := -s) (b := pw n.toNat) (by omega) (by omega)
        rw [Int.neg_tdiv] at this
        omega
      omega
theorem pow_ok : powC.Ok Try.prog := by
  refine ⟨by kernel_rfl, fun x k hk => ?_⟩
  simp only [powC] at hk
  split at hk
  · have hh := pow_true hk.1
    unfold powG at hh
    exact ⟨_, Does.plain (funH_does nilS_cs nilS_x nilS_ic mixed hh) trivial, hk.2⟩
  · exact hk.elim
theorem in_ok : inC.Ok Try.prog := by
  refine ⟨by kernel_rfl, fun x k hk => ?_⟩
  simp only [inC] at hk
  split at hk
  · rename_i n a b
    have hh := in_true n a b
    unfold inG at hh
    exact ⟨_, Does.plain (funH_does nilS_cs nilS_x nilS_ic mixed hh) trivial, hk⟩
  · exact hk.elim
theorem pow_cs : SoundS Try.prog (ctrs [powC]) := ctrs_sound (by intro x hx; simp at hx; subst hx; exact pow_ok)
noncomputable def hasC : Ctr := ⟨27, fun args k => match args with
  | [.int .i64 s, .int .i64 n] => i64P s ∧ (0 ≤ n ∧ n ≤ 12) ∧ k (.dec (hasP s n) (Classical.propDecidable _))
  | _ => False⟩
theorem has_ok : hasC.Ok Try.prog := by
  refine ⟨by kernel_rfl, fun x k hk => ?_⟩
  simp only [hasC] at hk
  split at hk
  · have hh := has_true hk.1 hk.2.1
    unfold hasG at hh
    exact ⟨_, Does.plain (funH_does pow_cs nilS_x nilS_ic mixed hh) trivial, hk.2.2⟩
  · exact hk.elim
end Go.Proofs.Ytfjfnpknlkonnaa

namespace Go.Proofs.Ytfjfnpknlkonnaa
open Go Go.Lg
attribute [local irreducible] bodyH
def spP (p : Prop) (su ca n : Int) : Prop := (p ∧ ¬ hasP ca n) ∨ (¬ p ∧ hasP su n)
noncomputable def spG (p : Prop) (i : Decidable p) (su ca n : Int) : Prop := funH Try.prog (ctrs [hasC]) noX (ictrs []) noL noL 26 [.agg [.dec p i, i6 su, i6 ca], i6 n] (.dec (spP p su ca n) (Classical.propDecidable _))
noncomputable def spC : Ctr := ⟨26, fun args k => match args with
  | [.agg [.dec p i, .int .i64 su, .int .i64 ca], .int .i64 n] => i64P su ∧ i64P ca ∧ (0 ≤ n ∧ n ≤ 12) ∧ k (.dec (spP p su ca n) (Classical.propDecidable _))
  | _ => False⟩
open Classical in
noncomputable def rfN (c : Dl) (n : Int) : Nat → Nat
  | 0 => 0
  | k + 1 => rfN c n k + (if spP (c.g k).p (c.su k) (c.ca k) n then 1 else 0)
structure okD (c : Dl) : Prop where
  su : ∀ k, i64P (c.su k)
  ca : ∀ k, i64P (c.ca k)
noncomputable def rcG (c : Dl) (n : Int) : Prop := funH Try.prog (ctrs [spC]) noX (ictrs [])
  (oneL 0 (natH (fun k => k ≤ c.n) (fun k => c.n - k) 0 (fun k => mkF 22 [(0, c.sv), (1, i6 n), (5, i6 (rfN c n k)), (6, i6 k)]) (fun _ => mkX []) fun _ => none)) noL 50 [c.sv, i6 n] (i6 (rfN c n c.n))
end Go.Proofs.Ytfjfnpknlkonnaa

set_option maxRecDepth 100000
namespace Go.Proofs.Ytfjfnpknlkonnaa
open Go Go.Lg
end Go.Proofs.Ytfjfnpknlkonnaa

set_option maxRecDepth 100000
namespace Go.Proofs.Ytfjfnpknlkonnaa
open Go Go.Lg
attribute [local irreducible] funS bodyH
noncomputable def rcC : Ctr := ⟨50, fun args k => match args with
  | [.lst 3 n f, .int .i64 m] => SV.lst 3 n f = (dlOf n f).sv ∧ okD (dlOf n f) ∧ n ≤ 40 ∧ (0 ≤ m ∧ m ≤ 12) ∧ k (i6 (rfN (dlOf n f) m (dlOf n f).n))
  | _ => False⟩
def okR (ma su ca : Int) : Prop := (0 ≤ su ∧ su ≤ pw ma.toNat - 1) ∧ (0 ≤ ca ∧ ca ≤ pw ma.toNat - 1) ∧ ∀ m : Nat, m < ma.toNat → ¬ (hasP su m ∧ ¬ hasP ca m)
noncomputable def clG (ma : Int) (p : Prop) (i : Decidable p) (su ca : Int) : Prop := funH Try.prog (ctrs [powC, inC, hasC]) noX (ictrs [])
  (oneL 0 (natH (fun k => k ≤ ma.toNat ∧ ((0 ≤ su ∧ su ≤ pw ma.toNat - 1) ∧ (0 ≤ ca ∧ ca ≤ pw ma.toNat - 1)) ∧ ∀ m : Nat, m < k → ¬ (hasP su m ∧ ¬ hasP ca m)) (fun k => ma.toNat - k) 1 (fun k => mkF 38 [(0, i6 ma), (3, .ptr 0 0 0), (5, i6 k)]) (fun _ => mkX [vr 3 (.agg [.dec p i, i6 su, i6 ca])]) fun _ => none)) noL 43 [i6 ma, .agg [.dec p i, i6 su, i6 ca]] (.dec (okR ma su ca) (Classical.propDecidable _))
end Go.Proofs.Ytfjfnpknlkonnaa

set_option maxRecDepth 100000
namespace Go.Proofs.Ytfjfnpknlkonnaa
open Go Go.Lg
theorem clG_vc (ma : Int) (p : Prop) (i : Decidable p) (su : Int) (ca : Int) : clG ma p i su ca = ((0 : Nat) < (1 : Nat) ∧ ((0 : Int) ≤ ma ∧ ma ≤ (12 : Int)) ∧ ((-9223372036854775808 : Int) ≤ pw ma.toNat - (1 : Int) ∧ pw ma.toNat - (1 : Int) ≤ (9223372036854775807 : Int)) ∧ (¬((0 : Int) ≤ su ∧ su ≤ pw ma.toNat - (1 : Int)) → (false = true ↔ okR ma su ca) ∧ True) ∧ (¬¬((0 : Int) ≤ su ∧ su ≤ pw ma.toNat - (1 : Int)) → (0 : Nat) < (1 : Nat) ∧ ((0 : Int) ≤ ma ∧ ma ≤ (12 : Int)) ∧ ((-9223372036854775808 : Int) ≤ pw ma.toNat - (1 : Int) ∧ pw ma.toNat - (1 : Int) ≤ (9223372036854775807 : Int)) ∧ (¬((0 : Int) ≤ ca ∧ ca ≤ pw ma.toNat - (1 : Int)) → (false = true ↔ okR ma su ca) ∧ True) ∧ (¬¬((0 : Int) ≤ ca ∧ ca ≤ pw ma.toNat - (1 : Int)) → (∃ (z : Nat), (z ≤ ma.toNat ∧ (((0 : Int) ≤ su ∧ su ≤ pw ma.toNat - (1 : Int)) ∧ (0 : Int) ≤ ca ∧ ca ≤ pw ma.toNat - (1 : Int)) ∧ ∀ (m : Nat), m < z → ¬(hasP su (↑m : Int) ∧ ¬hasP ca (↑m : Int))) ∧ ma = ma ∧ (0 : Nat) = (0 : Nat) ∧ (0 : Nat) = (0 : Nat) ∧ (0 : Int) = (↑z : Int) ∧ (p ↔ p) ∧ su = su ∧ ca = ca ∧ True) ∧ ∀ (z : Nat), (z ≤ ma.toNat ∧ (((0 : Int) ≤ su ∧ su ≤ pw ma.toNat - (1 : Int)) ∧ (0 : Int) ≤ ca ∧ ca ≤ pw ma.toNat - (1 : Int)) ∧ ∀ (m : Nat), m < z → ¬(hasP su (↑m : Int) ∧ ¬hasP ca (↑m : Int))) → ((↑z : Int) < ma → (0 : Nat) < (1 : Nat) ∧ i64P su ∧ ((0 : Int) ≤ (↑z : Int) ∧ (↑z : Int) ≤ (12 : Int)) ∧ (hasP su (↑z : Int) → (0 : Nat) < (1 : Nat) ∧ i64P ca ∧ ((0 : Int) ≤ (↑z : Int) ∧ (↑z : Int) ≤ (12 : Int)) ∧ (¬hasP ca (↑z : Int) → (false = true ↔ okR ma su ca) ∧ True) ∧ (¬¬hasP ca (↑z : Int) → ((-9223372036854775808 : Int) ≤ (↑z : Int) + (1 : Int) ∧ (↑z : Int) + (1 : Int) ≤ (9223372036854775807 : Int)) ∧ ∃ (z_1 : Nat), (z_1 ≤ ma.toNat ∧ (((0 : Int) ≤ su ∧ su ≤ pw ma.toNat - (1 : Int)) ∧
 (0 : Int) ≤ ca ∧ ca ≤ pw ma.toNat - (1 : Int)) ∧ ∀ (m : Nat), m < z_1 → ¬(hasP su (↑m : Int) ∧ ¬hasP ca (↑m : Int))) ∧ ma.toNat - z_1 < ma.toNat - z ∧ ma = ma ∧ (0 : Nat) = (0 : Nat) ∧ (0 : Nat) = (0 : Nat) ∧ (↑z : Int) + (1 : Int) = (↑z_1 : Int) ∧ (p ↔ p) ∧ su = su ∧ ca = ca ∧ True)) ∧ (¬hasP su (↑z : Int) → ((-9223372036854775808 : Int) ≤ (↑z : Int) + (1 : Int) ∧ (↑z : Int) + (1 : Int) ≤ (9223372036854775807 : Int)) ∧ ∃ (z_1 : Nat), (z_1 ≤ ma.toNat ∧ (((0 : Int) ≤ su ∧ su ≤ pw ma.toNat - (1 : Int)) ∧ (0 : Int) ≤ ca ∧ ca ≤ pw ma.toNat - (1 : Int)) ∧ ∀ (m : Nat), m < z_1 → ¬(hasP su (↑m : Int) ∧ ¬hasP ca (↑m : Int))) ∧ ma.toNat - z_1 < ma.toNat - z ∧ ma = ma ∧ (0 : Nat) = (0 : Nat) ∧ (0 : Nat) = (0 : Nat) ∧ (↑z : Int) + (1 : Int) = (↑z_1 : Int) ∧ (p ↔ p) ∧ su = su ∧ ca = ca ∧ True)) ∧ (¬(↑z : Int) < ma → (true = true ↔ okR ma su ca) ∧ True)))) := by kernel_rfl
end Go.Proofs.Ytfjfnpknlkonnaa

set_option maxRecDepth 100000
namespace Go.Proofs.Ytfjfnpknlkonnaa
open Go Go.Lg
attribute [local irreducible] funS bodyH
theorem cl_true {ma : Int} {p : Prop} {i : Decidable p} {su ca : Int} (hm : 1 ≤ ma ∧ ma ≤ 12) : clG ma p i su ca := by
  have hp := pw_13 (z := ma.toNat) (by omega)
  rw [clG_vc]
  simp only [and_true, true_and, Nat.zero_lt_one, and_self, Classical.not_not, Bool.false_eq_true, false_iff, true_iff]
  refine ⟨by omega, by omega, fun h h2 => h h2.1, fun h1 => ⟨by omega, by omega, fun h h2 => h h2.2.1, fun h2 => ⟨⟨0, ⟨by omega, ⟨h1, h2⟩, fun m hm => by omega⟩, rfl⟩, fun z hz => ⟨fun hl => ⟨⟨by omega, by omega⟩, by omega, fun hs => ⟨⟨by omega, by omega⟩, by omega, fun hc hr => hr.2.2 z (by omega) ⟨hs, hc⟩, fun hc => ?_⟩, fun hs => ?_⟩, fun hl => ⟨h1, h2, fun m hm' => hz.2.2 m (by omega)⟩⟩⟩⟩⟩
  · refine ⟨by omega, z + 1, ⟨by omega, ⟨h1, h2⟩, fun m hm' hx => ?_⟩, by omega, by omega⟩
    by_cases e : m < z
    · exact hz.2.2 m e hx
    · have : m = z := by omega
      subst this
      exact hx.2 hc
  · refine ⟨by omega, z + 1, ⟨by omega, ⟨h1, h2⟩, fun m hm' hx => ?_⟩, by omega, by omega⟩
    by_cases e : m < z
    · exact hz.2.2 m e hx
    · have : m = z := by omega
      subst this
      exact hs hx.1
theorem rh_cs : SoundS Try.prog (ctrs [powC, inC, hasC]) := ctrs_sound (by
  intro x hx
  simp at hx
  rcases hx with rfl | rfl | rfl
  · exact pow_ok
  · exact in_ok
  · exact has_ok)
noncomputable def clC : Ctr := ⟨43, fun args k => match args with
  | [.int .i64 ma, .agg [.dec _ _, .int .i64 su, .int .i64 ca]] => (1 ≤ ma ∧ ma ≤ 12) ∧ k (.dec (okR ma su ca) (Classical.propDecidable _))
  | _ => False⟩
theorem cl_ok : clC.Ok Try.prog := by
  refine ⟨by kernel_rfl, fun x k hk => ?_⟩
  simp only [clC] at hk
  split at hk
  · rename_i ma p i su ca
    have hh := cl_true (p := p) (i := i) (su := su) (ca := ca) hk.1
    unfold clG at hh
    exact ⟨_, Does.plain (funH_does rh_cs nilS_x nilS_ic mixed hh) trivial, hk.2⟩
  · exact hk.elim
end Go.Proofs.Ytfjfnpknlkonnaa
