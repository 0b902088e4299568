import Derived.Test.YtfjfnpknlkonnaaKrKrVKsKtKtVKuKuVKw
set_option linter.unusedVariables false
set_option linter.unusedSimpArgs false
namespace Go.Proofs.Ytfjfnpknlkonnaa
open Go Go.Lg
attribute [local irreducible] bodyH
structure sB (ma wr : Int) (cl ho : Dl) : Prop where
  hm : 1 ≤ ma ∧ ma ≤ 12
  hw : 0 ≤ wr ∧ wr ≤ 3
  cn : cl.n ≤ 20
  hn : ho.n ≤ 12
def okRs (ma : Int) (c : Dl) (n : Nat) : Prop := ∀ k, k < n → okR ma (c.su k) (c.ca k)
structure okSR (ma wr : Int) (cl ho : Dl) : Prop where
  b : sB ma wr cl ho
  hc : okRs ma cl cl.n
  hh : okRs ma ho ho.n
def sqV (ma wr : Int) (cl ho : Dl) : SV := .agg [i6 ma, i6 wr, cl.sv, ho.sv]
noncomputable def seaG (ma wr : Int) (cl ho : Dl) : Prop := funH Try.prog (ctrs [inC, clC]) noX (ictrs [])
  (twoL 0 (natH (fun k => k ≤ cl.n ∧ sB ma wr cl ho ∧ okRs ma cl k) (fun k => cl.n - k) 1 (fun k => mkF 59 [(1, .ptr 0 0 0), (3, i6 k)]) (fun _ => mkX [vr 4 (sqV ma wr cl ho)]) fun _ => none) <|
   oneL 2 (natH (fun k => k ≤ ho.n ∧ sB ma wr cl ho ∧ okRs ma cl cl.n ∧ okRs ma ho k) (fun k => ho.n - k) 1 (fun k => mkF 59 [(1, .ptr 0 0 0), (4, i6 k)]) (fun _ => mkX [vr 4 (sqV ma wr cl ho)]) fun _ => none)) noL 23 [sqV ma wr cl ho] (.dec (okSR ma wr cl ho) (Classical.propDecidable _))
end Go.Proofs.Ytfjfnpknlkonnaa

set_option maxRecDepth 100000
namespace Go.Proofs.Ytfjfnpknlkonnaa
open Go Go.Lg
def seaG0 (cl : Dl) : Prop := (∀ (i : Nat), i < cl.1 → rE ((SV.agg [SV.dec (cl.g i).p (cl.g i).i, i6 (cl.su i), i6 (cl.ca i)]).den) ∧ True ∧ True ∧ True ∧ True)
def seaG1 (ho : Dl) : Prop := (∀ (i : Nat), i < ho.1 → rE ((SV.agg [SV.dec (ho.g i).p (ho.g i).i, i6 (ho.su i), i6 (ho.ca i)]).den) ∧ True ∧ True ∧ True ∧ True)
theorem seaG_vc (ma : Int) (wr : Int) (cl : Dl) (ho : Dl) : seaG ma wr cl ho = ((0 : Nat) < (1 : Nat) ∧ (¬((1 : Int) ≤ ma ∧ ma ≤ (12 : Int)) → (false = true ↔ okSR ma wr cl ho) ∧ True) ∧ (¬¬((1 : Int) ≤ ma ∧ ma ≤ (12 : Int)) → (0 : Nat) < (1 : Nat) ∧ (¬((0 : Int) ≤ wr ∧ wr ≤ (3 : Int)) → (false = true ↔ okSR ma wr cl ho) ∧ True) ∧ (¬¬((0 : Int) ≤ wr ∧ wr ≤ (3 : Int)) → (0 : Nat) < (1 : Nat) ∧ ((20 : Int) < (↑cl.1 : Int) → (false = true ↔ okSR ma wr cl ho) ∧ True) ∧ (¬(20 : Int) < (↑cl.1 : Int) → (0 : Nat) < (1 : Nat) ∧ ((12 : Int) < (↑ho.1 : Int) → (false = true ↔ okSR ma wr cl ho) ∧ True) ∧ (¬(12 : Int) < (↑ho.1 : Int) → (∃ (z : Nat), (z ≤ cl.1 ∧ sB ma wr cl ho ∧ okRs ma cl z) ∧ rE (0 : Nat) ∧ rE (0 : Nat) ∧ (0 : Int) = (↑z : Int) ∧ ma = ma ∧ wr = wr ∧ rE cl.1 ∧ (seaG0 cl) ∧ rE ho.1 ∧ (seaG1 ho) ∧ True) ∧ ∀ (z : Nat), z ≤ cl.1 ∧ sB ma wr cl ho ∧ okRs ma cl z → (0 : Nat) < (1 : Nat) ∧ ((↑z : Int) < (↑cl.1 : Int) → (0 : Nat) < (1 : Nat) ∧ (0 : Nat) < (1 : Nat) ∧ (0
 : Int) ≤ (↑z : Int) ∧ (↑z : Int) < (↑cl.1 : Int) ∧ ((1 : Int) ≤ ma ∧ ma ≤ (12 : Int)) ∧ (¬okR ma (cl.su (↑z : Int).toNat) (cl.ca (↑z : Int).toNat) → (false = true ↔ okSR ma wr cl ho) ∧ True) ∧ (¬¬okR ma (cl.su (↑z : Int).toNat) (cl.ca (↑z : Int).toNat) → rI ((↑z : Int) + (1 : Int)) ∧ ∃ (z_1 : Nat), (z_1 ≤ cl.1 ∧ sB ma wr cl ho ∧ okRs ma cl z_1) ∧ cl.1 - z_1 < cl.1 - z ∧ rE (0 : Nat) ∧ rE (0 : Nat) ∧ (↑z : Int) + (1 : Int) = (↑z_1 : Int) ∧ ma = ma ∧ wr = wr ∧ rE cl.1 ∧ (seaG0 cl) ∧ rE ho.1 ∧ (seaG1 ho) ∧ True)) ∧ (¬(↑z : Int) < (↑cl.1 : Int) → (∃ (z : Nat), (z ≤ ho.1 ∧ sB ma wr cl ho ∧ okRs ma cl cl.n ∧ okRs ma ho z) ∧ rE (0 : Nat) ∧ rE (0 : Nat) ∧ (0 : Int) = (↑z : Int) ∧ ma = ma ∧ wr = wr ∧ rE cl.1 ∧ (seaG0 cl) ∧ rE ho.1 ∧ (seaG1 ho) ∧ True) ∧ ∀ (z : Nat), z ≤ ho.1 ∧ sB ma wr cl ho ∧ okRs ma cl cl.n ∧ okRs ma ho z → (0 : Nat) < (1 : Nat) ∧ ((↑z : Int) < (↑ho.1 : Int) → (0 : Nat) < (1 :
 Nat) ∧ (0 : Nat) < (1 : Nat) ∧ (0 : Int) ≤ (↑z : Int) ∧ (↑z : Int) < (↑ho.1 : Int) ∧ ((1 : Int) ≤ ma ∧ ma ≤ (12 : Int)) ∧ (¬okR ma (ho.su (↑z : Int).toNat) (ho.ca (↑z : Int).toNat) → (false = true ↔ okSR ma wr cl ho) ∧ True) ∧ (¬¬okR ma (ho.su (↑z : Int).toNat) (ho.ca (↑z : Int).toNat) → rI ((↑z : Int) + (1 : Int)) ∧ ∃ (z_1 : Nat), (z_1 ≤ ho.1 ∧ sB ma wr cl ho ∧ okRs ma cl cl.n ∧ okRs ma ho z_1) ∧ ho.1 - z_1 < ho.1 - z ∧ rE (0 : Nat) ∧ rE (0 : Nat) ∧ (↑z : Int) + (1 : Int) = (↑z_1 : Int) ∧ ma = ma ∧ wr = wr ∧ rE cl.1 ∧ (seaG0 cl) ∧ rE ho.1 ∧ (seaG1 ho) ∧ True)) ∧ (¬(↑z : Int) < (↑ho.1 : Int) → (rE true ↔ okSR ma wr cl ho) ∧ True))))))) := by kernel_rfl
end Go.Proofs.Ytfjfnpknlkonnaa

set_option maxRecDepth 100000
namespace Go.Proofs.Ytfjfnpknlkonnaa
open Go Go.Lg
attribute [local irreducible] funS bodyH
theorem okRs_succ {ma : Int} {c : Dl} {z : Nat} (h : okRs ma c z) (h2 : okR ma (c.su z) (c.ca z)) : okRs ma c (z + 1) := fun k hk => by
  by_cases e : k < z
  · exact h k e
  · have : k = z := by omega
    subst this
    exact h2
theorem sea_true (ma wr : Int) (cl ho : Dl) : seaG ma wr cl ho := by
  rw [seaG_vc]
  simp only [seaG0, seaG1, rI, rE, tt3, tt4, tt5, tt13, tt14, t12, and_true, true_and, Nat.zero_lt_one, and_self, implies_true, Classical.not_not, Bool.false_eq_true, false_iff, true_iff, Int.toNat_natCast]
  refine ⟨fun h x => h x.b.hm, fun h1 => ⟨fun h x => h x.b.hw, fun h2 => ⟨fun h x => by have := x.b.cn; omega, fun h3 => ⟨fun h x => by have := x.b.hn; omega, fun h4 => ?_⟩⟩⟩⟩
  have b : sB ma wr cl ho := ⟨h1, h2, by omega, by omega⟩
  refine ⟨⟨0, ⟨by omega, b, fun k hk => by omega⟩, rfl⟩, fun z hz => ⟨fun hl => ⟨by omega, hl, h1, fun h x => h (x.hc z (by omega)), fun h => ⟨by omega, z + 1, ⟨by omega, b, okRs_succ hz.2.2 h⟩, by omega, by omega⟩⟩, fun hl => ?_⟩⟩
  have e : z = cl.n := by omega
  subst e
  refine ⟨⟨0, ⟨by omega, b, hz.2.2, fun k hk => by omega⟩, rfl⟩, fun y hy => ⟨fun hl => ⟨by omega, hl, h1, fun h x => h (x.hh y (by omega)), fun h => ⟨by omega, y + 1, ⟨by omega, b, hz.2.2, okRs_succ hy.2.2.2 h⟩, by omega, by omega⟩⟩, fun hl => ⟨b, hz.2.2, ?_⟩⟩⟩
  have e : y = ho.n := by omega
  subst e
  exact hy.2.2.2
end Go.Proofs.Ytfjfnpknlkonnaa

set_option maxRecDepth 100000
namespace Go.Proofs.Ytfjfnpknlkonnaa
open Go Go.Lg
attribute [local irreducible] bodyH
open Classical in
noncomputable def rsS (c : Dl) (wr : Int) : Nat → Int
  | 0 => 0
  | k + 1 => rsS c wr k + (if (rfN c k c.n : Int) ≤ wr then pw k else 0)
open Classical in
noncomputable def rsN (c : Dl) (wr : Int) : Nat → Nat
  | 0 => 0
  | k + 1 => rsN c wr k + (if (rfN c k c.n : Int) ≤ wr then 1 else 0)
noncomputable def rsG (ma wr : Int) (cl ho c : Dl) : Prop := funH Try.prog (ctrs [rcC, powC]) noX (ictrs [])
  (oneL 0 (natH (fun k => k ≤ ma.toNat) (fun k => ma.toNat - k) 1 (fun k => mkF 29 [(1, c.sv), (2, .ptr 0 0 0), (6, i6 (rsS c wr k)), (7, i6 (rsN c wr k)), (8, i6 k)]) (fun _ => mkX [vr 4 (sqV ma wr cl ho)]) fun _ => none)) noL 35 [sqV ma wr cl ho, c.sv] (.tup [i6 (rsS c wr ma.toNat), i6 (rsN c wr ma.toNat)])
end Go.Proofs.Ytfjfnpknlkonnaa

set_option maxRecDepth 100000
namespace Go.Proofs.Ytfjfnpknlkonnaa
open Go Go.Lg
end Go.Proofs.Ytfjfnpknlkonnaa

set_option maxRecDepth 100000
namespace Go.Proofs.Ytfjfnpknlkonnaa
open Go Go.Lg
attribute [local irreducible] funS bodyH
theorem rsS_le (c : Dl) (wr : Int) : ∀ k, 0 ≤ rsS c wr k ∧ rsS c wr k ≤ pw k - 1
  | 0 => by simp [rsS, pw]
  | k + 1 => by
    have h1 := rsS_le c wr k
    have h2 := pw_succ k
    simp only [rsS]
    split <;> omega
end Go.Proofs.Ytfjfnpknlkonnaa

set_option maxRecDepth 100000
namespace Go.Proofs.Ytfjfnpknlkonnaa
open Go Go.Lg
attribute [local irreducible] funS bodyH
theorem wrapN_small {n : Nat} (h : n < 2 ^ 63) : IntKind.wrap .i64 (n : Int) = n := by
  unfold IntKind.wrap
  have e : IntKind.bits .i64 = 64 := rfl
  simp only [e]
  have : ((n : Int) % 2 ^ 64) = n := by omega
  rw [this]
  have e2 : IntKind.signed .i64 = true := rfl
  simp only [e2, Bool.true_and, decide_eq_true_eq]
  split <;> omega
theorem wrapN_zero {n : Nat} (h : n < 2 ^ 64) : IntKind.wrap .i64 (n : Int) = 0 ↔ n = 0 := by
  unfold IntKind.wrap
  have e : IntKind.bits .i64 = 64 := rfl
  have e2 : IntKind.signed .i64 = true := rfl
  simp only [e, e2, Bool.true_and, decide_eq_true_eq]
  split <;> omega
theorem ofInt_nat {s : Int} (h0 : 0 ≤ s) (h : s < 2 ^ 63) : (BitVec.ofInt 64 s).toNat = s.toNat := by
  rw [BitVec.toNat_ofInt]
  omega
theorem ofInt_neg {s : Int} (h0 : s < 0) (h : -9223372036854775808 ≤ s) : 2 ^ 63 ≤ (BitVec.ofInt 64 s).toNat := by
  rw [BitVec.toNat_ofInt]
  omega
theorem inP_bit {n s : Int} (h0 : 0 ≤ s) (h : s < 2 ^ 63) : inP n s ↔ s.toNat.testBit n.toNat = true := by
  unfold inP bitA shP
  have e : IntKind.bits .i64 = 64 := rfl
  rw [e]
  have hp : (2 : Int) ^ n.toNat = ((2 ^ n.toNat : Nat) : Int) := by simp
  have h1 : s.fdiv (2 ^ n.toNat) = ((s.toNat / 2 ^ n.toNat : Nat) : Int) := by
    rw [Int.fdiv_eq_ediv_of_nonneg _ (by rw [hp]; exact Int.natCast_nonneg _), hp, Int.natCast_ediv, Int.toNat_of_nonneg h0]
  have hq : s.toNat / 2 ^ n.toNat ≤ s.toNat := Nat.div_le_self _ _
  have h2 : (BitVec.ofInt 64 (s.fdiv (2 ^ n.toNat))).toNat = s.toNat / 2 ^ n.toNat := by
    rw [h1, ofInt_nat (Int.natCast_nonneg _) (by omega), Int.toNat_natCast]
  have h3 : (BitVec.ofInt 64 1).toNat = 1 := by decide
  rw [BitVec.toNat_and, h2, h3, Nat.and_one_is_mod, wrapN_small (n := s.toNat / 2 ^ n.toNat % 2) (by omega), Nat.testBit_eq_decide_div_mod_eq]
  simp only [decide_eq_true_eq]
  omega
theorem hasP_bit {n s : Int} (h0 : 0 ≤ s) : hasP s n ↔ s.toNat.testBit n.toNat = true := by
  unfold hasP pw
  have hp : (2 : Int) ^ n.toNat = ((2 ^ n.toNat : Nat) : Int) := by simp
  have h1 : s.tdiv (2 ^ n.toNat) = ((s.toNat / 2 ^ n.toNat : Nat) : Int) := by
    rw [Int.tdiv_eq_ediv_of_nonneg h0, hp, Int.natCast_ediv, Int.toNat_of_nonneg h0]
  rw [h1, Nat.testBit_eq_decide_div_mod_eq]
  simp only [decide_eq_true_eq]
  have : (((s.toNat / 2 ^ n.toNat : Nat) : Int)).tmod 2 = ((s.toNat / 2 ^ n.toNat % 2 : Nat) : Int) := by
    rw [Int.tmod_eq_emod_of_nonneg (Int.natCast_nonneg _)]; omega
  rw [this]
  omega
theorem wiP_bit {s o : Int} : wiP s o ↔ ∀ i, (BitVec.ofInt 64 s).toNat.testBit i = true → (BitVec.ofInt 64 o).toNat.testBit i = true := by
  unfold wiP bitN
  have e : IntKind.bits .i64 = 64 := rfl
  rw [e, wrapN_zero (BitVec.isLt _)]
  constructor
  · intro h i hi
    have hz : (BitVec.ofInt 64 s &&& ~~~ BitVec.ofInt 64 o) = 0#64 := BitVec.eq_of_toNat_eq (by rw [h]; rfl)
    have hb : (BitVec.ofInt 64 s &&& ~~~ BitVec.ofInt 64 o).getLsbD i = (0#64).getLsbD i := by rw [hz]
    rw [BitVec.getLsbD_and, BitVec.getLsbD_not, BitVec.getLsbD_zero] at hb
    have hi' : (BitVec.ofInt 64 s).getLsbD i = true := hi
    have hlt : i < 64 := by
      apply Classical.byContradiction
      intro hn
      rw [BitVec.getLsbD_of_ge _ _ (by omega)] at hi'
      exact absurd hi' (by decide)
    simp only [hi', hlt, decide_true, Bool.true_and, Bool.not_eq_false'] at hb
    exact hb
  · intro h
    have hz : (BitVec.ofInt 64 s &&& ~~~ BitVec.ofInt 64 o) = 0#64 := by
      apply BitVec.eq_of_getLsbD_eq
      intro i hi
      rw [BitVec.getLsbD_and, BitVec.getLsbD_not, BitVec.getLsbD_zero]
      by_cases hb : (BitVec.ofInt 64 s).getLsbD i = true
      · have : (BitVec.ofInt 64 o).getLsbD i = true := h i hb
        simp [this]
      · simp [Bool.not_eq_true _ ▸ hb]
    rw [hz]; rfl
theorem wi_small {s : Int} {m : Nat} (hm : m ≤ 12) (hs : i64P s) : wiP s (shP (m : Int) - 1) ↔ 0 ≤ s ∧ s ≤ pw m - 1 := by
  have hp : (2 : Int) ^ m = ((2 ^ m : Nat) : Int) := by simp
  have hle : 2 ^ m ≤ 2 ^ 12 := Nat.pow_le_pow_right (by omega) hm
  have hpos : 1 ≤ 2 ^ m := Nat.one_le_two_pow
  have e1 : shP (m : Int) - 1 = ((2 ^ m - 1 : Nat) : Int) := by
    unfold shP
    rw [Int.toNat_natCast, hp]; omega
  have e2 : (BitVec.ofInt 64 (shP (m : Int) - 1)).toNat = 2 ^ m - 1 := by
    rw [e1, ofInt_nat (Int.natCast_nonneg _) (by omega), Int.toNat_natCast]
  have e3 : pw m = ((2 ^ m : Nat) : Int) := hp
  unfold i64P at hs
  rw [wiP_bit, e2, e3]
  constructor
  · intro h
    have hlt : (BitVec.ofInt 64 s).toNat < 2 ^ m := by
      apply Nat.lt_pow_two_of_testBit
      intro i hi
      cases hb : (BitVec.ofInt 64 s).toNat.testBit i with
      | false => rfl
      | true =>
        have := h i hb
        rw [Nat.testBit_two_pow_sub_one] at this
        simp only [decide_eq_true_eq] at this
        omega
    by_cases h0 : 0 ≤ s
    · rw [ofInt_nat h0 (by omega)] at hlt
      omega
    · have := ofInt_neg (s := s) (by omega) (by omega)
      omega
  · intro h i hi
    rw [ofInt_nat h.1 (by omega)] at hi
    rw [Nat.testBit_two_pow_sub_one]
    have hlt : s.toNat < 2 ^ m := by omega
    simp only [decide_eq_true_eq]
    apply Classical.byContradiction
    intro hn
    have : s.toNat < 2 ^ i := Nat.lt_of_lt_of_le hlt (Nat.pow_le_pow_right (by omega) (by omega))
    rw [Nat.testBit_lt_two_pow this] at hi
    exact absurd hi (by decide)
theorem wi_sub {s o : Int} {m : Nat} (hm : m ≤ 12) (hs : i64P s) (h1 : 0 ≤ o) (h2 : o ≤ pw m - 1) : wiP s o ↔ (0 ≤ s ∧ s ≤ pw m - 1) ∧ ∀ k : Nat, k < m → ¬ (hasP s k ∧ ¬ hasP o k) := by
  have hp : pw m = ((2 ^ m : Nat) : Int) := by unfold pw; simp
  have hle : 2 ^ m ≤ 2 ^ 12 := Nat.pow_le_pow_right (by omega) hm
  constructor
  · intro h
    have hw : wiP s (shP (m : Int) - 1) := by
      rw [wiP_bit] at h ⊢
      intro i hi
      exact (wiP_bit.1 ((wi_small (s := o) hm (by unfold i64P; omega)).2 ⟨h1, h2⟩)) i (h i hi)
    have hr := (wi_small hm hs).1 hw
    refine ⟨hr, fun k hk hx => hx.2 ?_⟩
    have hb := (hasP_bit hr.1).1 hx.1
    rw [wiP_bit, ofInt_nat hr.1 (by omega), ofInt_nat h1 (by omega)] at h
    exact (hasP_bit h1).2 (h _ hb)
  · rintro ⟨hr, hx⟩
    rw [wiP_bit, ofInt_nat hr.1 (by omega), ofInt_nat h1 (by omega)]
    intro i hi
    by_cases hk : i < m
    · apply Classical.byContradiction
      intro hn
      exact hx i hk ⟨(hasP_bit hr.1).2 hi, fun h => hn ((hasP_bit h1).1 h)⟩
    · have hlt : s.toNat < 2 ^ m := by omega
      have : s.toNat < 2 ^ i := Nat.lt_of_lt_of_le hlt (Nat.pow_le_pow_right (by omega) (by omega))
      rw [Nat.testBit_lt_two_pow this] at hi
      exact absurd hi (by decide)
theorem or_pow {x : Int} {m : Nat} (hm : m ≤ 12) (h0 : 0 ≤ x) (h : x < pw m) : bitO .i64 x (shP (m : Int)) = x + pw m := by
  have hp : pw m = ((2 ^ m : Nat) : Int) := by unfold pw; simp
  have hle : 2 ^ m ≤ 2 ^ 12 := Nat.pow_le_pow_right (by omega) hm
  have e2 : (BitVec.ofInt 64 (shP (m : Int))).toNat = 2 ^ m := by
    have : shP (m : Int) = pw m := by unfold shP pw; rw [Int.toNat_natCast]
    rw [this, hp, ofInt_nat (Int.natCast_nonneg _) (by omega), Int.toNat_natCast]
  unfold bitO
  have e : IntKind.bits .i64 = 64 := rfl
  rw [e, BitVec.toNat_or, e2, ofInt_nat h0 (by omega)]
  have hlt : x.toNat < 2 ^ m := by omega
  have := Nat.two_pow_add_eq_or_of_lt hlt 1
  rw [Nat.mul_one, Nat.or_comm] at this
  rw [← this, wrapN_small (n := 2 ^ m + x.toNat) (by omega)]
  omega
theorem okK_R {ma su ca : Int} (hm : 1 ≤ ma ∧ ma ≤ 12) (hs : i64P su) (hc : i64P ca) : (wiP ca (shP ma - 1) ∧ wiP su ca) ↔ okR ma su ca := by
  have e : ((ma.toNat : Nat) : Int) = ma := by omega
  have h12 : ma.toNat ≤ 12 := by omega
  have w1 := wi_small (s := ca) h12 hc
  rw [e] at w1
  constructor
  · rintro ⟨h1, h2⟩
    have hb := w1.1 h1
    have := (wi_sub h12 hs hb.1 hb.2).1 h2
    exact ⟨this.1, hb, this.2⟩
  · rintro ⟨h1, h2, h3⟩
    exact ⟨w1.2 h2, (wi_sub h12 hs h2.1 h2.2).2 ⟨h1, h3⟩⟩
theorem okS_R {ma wr : Int} {cl ho : Dl} (h1 : okD cl) (h2 : okD ho) : okS ma wr cl ho ↔ okSR ma wr cl ho :=
  ⟨fun h => ⟨⟨h.hm, h.hw, h.cn, h.hn⟩, fun k hk => (okK_R h.hm (h1.su k) (h1.ca k)).1 (h.hc k hk), fun k hk => (okK_R h.hm (h2.su k) (h2.ca k)).1 (h.hh k hk)⟩,
   fun h => ⟨h.b.hm, h.b.hw, h.b.cn, h.b.hn, fun k hk => (okK_R h.b.hm (h1.su k) (h1.ca k)).2 (h.hc k hk), fun k hk => (okK_R h.b.hm (h2.su k) (h2.ca k)).2 (h.hh k hk)⟩⟩
structure okB (c : Dl) : Prop where
  su : ∀ k, k < c.n → 0 ≤ c.su k ∧ c.su k < 2 ^ 63
  ca : ∀ k, k < c.n → 0 ≤ c.ca k ∧ c.ca k < 2 ^ 63
theorem okB_of {ma : Int} {c : Dl} (hm : 1 ≤ ma ∧ ma ≤ 12) (h : okRs ma c c.n) : okB c := by
  have hp := pw_13 (z := ma.toNat) (by omega)
  refine ⟨fun k hk => ?_, fun k hk => ?_⟩
  · have := (h k hk).1; omega
  · have := (h k hk).2.1; omega
theorem agsp {p : Prop} {i : Decidable p} {su ca : Int} {n : Nat} (h1 : 0 ≤ su ∧ su < 2 ^ 63) (h2 : 0 ≤ ca ∧ ca < 2 ^ 63) : agP ⟨@decide p i, su, ca⟩ n ↔ spP p su ca n := by
  have a1 := (inP_bit (n := n) h1.1 h1.2).trans (hasP_bit (n := n) h1.1).symm
  have a2 := (inP_bit (n := n) h2.1 h2.2).trans (hasP_bit (n := n) h2.1).symm
  unfold agP spP
  simp only [decide_eq_true_eq, a1, a2]
theorem tal_rf {c : Dl} (h : okB c) (m : Nat) : ∀ k, k ≤ c.n → tal (csD c) k m = (rfN c m k : Int)
  | 0, _ => rfl
  | k + 1, hk => by
    have ih := tal_rf h m k (by omega)
    simp only [tal, rfN, ih]
    have e : agP ((csD c).cl k) m ↔ spP (c.g k).p (c.su k) (c.ca k) m := agsp (h.su k (by omega)) (h.ca k (by omega))
    unfold agN
    by_cases hs : spP (c.g k).p (c.su k) (c.ca k) m
    · rw [if_pos hs, if_pos (e.2 hs)]; omega
    · rw [if_neg hs, if_neg (fun hh => hs (e.1 hh))]; omega
theorem orN_app (l l2 : List Nat) : ∀ j, j ≤ l.length → orN (l ++ l2) j = orN l j
  | 0, _ => rfl
  | j + 1, h => by
    have h1 : j < l.length := by omega
    have e : (l ++ l2).getD j 0 = l.getD j 0 := by simp [List.getD, List.getElem?_append_left h1]
    simp only [orN, orN_app l l2 j (by omega), e]
theorem or_sum {t : Nat → Int} {c : Dl} {wr : Int} (h : ∀ i, t i = (rfN c i c.n : Int)) : ∀ m, m ≤ 12 → orN (susL t wr m) (susL t wr m).length = rsS c wr m
  | 0, _ => by simp [susL, orN, rsS]
  | m + 1, hm => by
    have ih := or_sum (wr := wr) h m (by omega)
    rw [susL_succ, h m]
    simp only [rsS]
    by_cases e : (rfN c m c.n : Int) ≤ wr
    · rw [if_pos e, if_pos e, List.length_append]
      show orN (susL t wr m ++ [m]) ((susL t wr m).length + 1) = _
      have g : (susL t wr m ++ [m]).getD (susL t wr m).length 0 = m := by simp [List.getD]
      simp only [orN, g, orN_app _ _ _ (Nat.le_refl _), ih]
      have hb := rsS_le c wr m
      exact or_pow (by omega) hb.1 (by omega)
    · rw [if_neg e, if_neg e, List.append_nil, ih]; omega
theorem sus_n {t : Nat → Int} {c : Dl} {wr : Int} (h : ∀ i, t i = (rfN c i c.n : Int)) : ∀ m, (susL t wr m).length = rsN c wr m
  | 0 => by simp [susL, rsN]
  | m + 1 => by
    have ih := sus_n h m (wr := wr)
    rw [susL_succ, h m, List.length_append, ih]
    simp only [rsN]
    by_cases e : (rfN c m c.n : Int) ≤ wr
    · rw [if_pos e, if_pos e]; rfl
    · rw [if_neg e, if_neg e]; rfl
theorem rs_zero (c : Dl) (wr : Int) : ∀ m, rsS c wr m = 0 ↔ rsN c wr m = 0
  | 0 => by simp [rsS, rsN]
  | m + 1 => by
    have ih := rs_zero c wr m
    have hb := rsS_le c wr m
    have hp : 1 ≤ pw m := by
      have : pw m = ((2 ^ m : Nat) : Int) := by unfold pw; simp
      have h2 : 1 ≤ 2 ^ m := Nat.one_le_two_pow
      omega
    simp only [rsS, rsN]
    by_cases e : (rfN c m c.n : Int) ≤ wr
    · rw [if_pos e, if_pos e]; omega
    · rw [if_neg e, if_neg e]; omega
theorem suS_rs {ma wr : Int} {c : Dl} (hm : 1 ≤ ma ∧ ma ≤ 12) (h : okB c) : suS ma wr (csD c) = rsS c wr ma.toNat :=
  or_sum (t := tal (csD c) (csD c).n) (fun i => tal_rf h i c.n (Nat.le_refl _)) ma.toNat (by omega)
noncomputable def seC : Ctr := ⟨23, fun args k => match args with
  | [.agg [.int .i64 ma, .int .i64 wr, .lst 3 n f, .lst 3 n' f']] => SV.lst 3 n f = (dlOf n f).sv ∧ SV.lst 3 n' f' = (dlOf n' f').sv ∧ k (.dec (okSR ma wr (dlOf n f) (dlOf n' f')) (Classical.propDecidable _))
  | _ => False⟩
theorem ic_cs : SoundS Try.prog (ctrs [inC, clC]) := ctrs_sound (by
  intro x hx
  simp at hx
  rcases hx with rfl | rfl
  · exact in_ok
  · exact cl_ok)
theorem se_ok : seC.Ok Try.prog := by
  refine ⟨by kernel_rfl, fun x k hk => ?_⟩
  simp only [seC] at hk
  split at hk
  · rename_i ma wr n f n' f'
    obtain ⟨hf, hf', hk⟩ := hk
    have hh := sea_true ma wr (dlOf n f) (dlOf n' f')
    unfold seaG sqV at hh
    rw [← hf, ← hf'] at hh
    exact ⟨_, Does.plain (funH_does ic_cs nilS_x nilS_ic mixed hh) trivial, hk⟩
  · exact hk.elim
noncomputable def rsC : Ctr := ⟨35, fun args k => match args with
  | [.agg [.int .i64 ma, .int .i64 wr, .lst 3 n f, .lst 3 n' f'], .lst 3 m g] => (SV.lst 3 n f = (dlOf n f).sv ∧ SV.lst 3 n' f' = (dlOf n' f').sv ∧ SV.lst 3 m g = (dlOf m g).sv) ∧ (1 ≤ ma ∧ ma ≤ 12) ∧ okD (dlOf m g) ∧ m ≤ 40 ∧ k (.tup [i6 (rsS (dlOf m g) wr ma.toNat), i6 (rsN (dlOf m g) wr ma.toNat)])
  | _ => False⟩
noncomputable def rspG (ma wr : Int) (cl ho : Dl) : Prop := funH Try.prog (ctrs [seC, rsC]) noX (ictrs []) noL noL 14 [sqV ma wr cl ho] (.tup [i6 (suX ma wr cl ho), i6 (erX ma wr cl ho)])
end Go.Proofs.Ytfjfnpknlkonnaa
