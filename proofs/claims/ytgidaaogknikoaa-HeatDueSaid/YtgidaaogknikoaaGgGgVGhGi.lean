import Derived.Test.YtgidaaogknikoaaGeGeVGf
set_option linter.unusedVariables false
set_option linter.unusedSimpArgs false
namespace Go.Proofs.Ytgidaaogknikoaa
open Go Go.Lg
attribute [local irreducible] bodyH funS
noncomputable def rinG (n a b : Int) : Prop := funH Try.prog (ctrs []) noX (ictrs []) noL noL 31 [i6 n, i6 a, i6 b] (.dec (a ≤ n ∧ n ≤ b) (Classical.propDecidable _))
noncomputable def rinC : Ctr := { frC with f := 31 }
noncomputable def rspG (a b : Int) : Prop := funH Try.prog (ctrs []) noX (ictrs []) noL noL 30 [.agg [i6 a, i6 b]] (.dec (okSp a b) (Classical.propDecidable _))
noncomputable def rspC : Ctr := { vhC with f := 30 }
noncomputable def rtsG (T : Tl) : Prop := funH Try.prog (ctrs [rinC, rspC]) noX (ictrs [])
  (oneL 0 (natH (fun k => k ≤ T.n ∧ ∀ i, i < k → okTs (T.f i)) (fun k => T.n - k) 0 (fun k => mkF 35 [(0, T.sv), (3, i6 k)]) (fun _ => mkX []) fun _ => none)) noL
  25 [T.sv] (.dec (okTl T) (Classical.propDecidable _))
noncomputable def rtsC : Ctr := ⟨25, fun args k => match args with
  | [.lst 4 n f] => SV.lst 4 n f = (tlOf n f).sv ∧ n ≤ 1000 ∧ k (.dec (okTl (tlOf n f)) (Classical.propDecidable _))
  | _ => False⟩
noncomputable def rdeG (d : De) : Prop := funH Try.prog (ctrs [rinC]) noX (ictrs []) noL noL 24 [d.sv] (.dec (okDe d) (Classical.propDecidable _))
noncomputable def rdeC : Ctr := { vdC with f := 24 }
def payI (p lack n : Int) : Int := if lack ≤ 0 then 0 else (lack * p + n - 1).tdiv n
def rpaC : Ctr := ⟨26, fun args k => match args with
  | [.agg [.int .i64 a, .int .i64 b, .int .i64 c, .int .i64 d], .int .i64 l, .int .i64 n] => (0 ≤ d ∧ d ≤ 1000000) ∧ l ≤ 100000000 ∧ (0 < l → 1 ≤ n ∧ n ≤ 1000) ∧ k (i6 (payI d l n))
  | _ => False⟩
noncomputable def rpaG (d : De) (l n : Int) : Prop := funH Try.prog (ctrs []) noX (ictrs []) noL noL 26 [d.sv, i6 l, i6 n] (i6 (payI d.pay l n))
end Go.Proofs.Ytgidaaogknikoaa

set_option maxRecDepth 100000
namespace Go.Proofs.Ytgidaaogknikoaa
open Go Go.Lg
theorem rinG_vc (n : Int) (a : Int) (b : Int) : rinG n a b =
 ((a ≤ n → (n ≤ b ↔ a ≤ n ∧ n ≤ b) ∧ True) ∧ (¬a ≤ n → (false = true ↔ a ≤ n ∧ n ≤ b) ∧ True)) := by kernel_rfl
theorem rspG_vc (a : Int) (b : Int) : rspG a b =
 ((0 : Nat) < (1 : Nat) ∧
  ((0 : Int) ≤ a →
      (0 : Nat) < (1 : Nat) ∧
        (0 : Nat) < (1 : Nat) ∧
          (a ≤ b → (0 : Nat) < (1 : Nat) ∧ (b ≤ (10000 : Int) ↔ okSp a b) ∧ True) ∧
            (¬a ≤ b → (false = true ↔ okSp a b) ∧ True)) ∧
    (¬(0 : Int) ≤ a → (false = true ↔ okSp a b) ∧ True)) := by kernel_rfl
theorem rtsG_vc (T : Tl) : rtsG T =
 ((∃ (z : Nat), (z ≤ T.1 ∧ ∀ (i : Nat), i < z → okTs (T.f i)) ∧ T.1 = T.1 ∧ (∀ (i : Nat), i < T.1 → rE ((T.f i).sv.den) ∧ True ∧ True ∧ True ∧ True ∧ True) ∧ (0 : Int) = (↑z : Int) ∧ True) ∧ ∀ (z : Nat), (z ≤ T.1 ∧ ∀ (i : Nat), i < z → okTs (T.f i)) → ((↑z : Int) < (↑T.1 : Int) → (0 : Int) ≤ (↑z : Int) ∧ (↑z : Int) < (↑T.1 : Int) ∧ (¬((0 : Int) ≤ (T.f (↑z : Int).toNat).1 ∧ (T.f (↑z : Int).toNat).1 ≤ (1048576 : Int)) → (false = true ↔ okTl T) ∧ True) ∧ (¬¬((0 : Int) ≤ (T.f (↑z : Int).toNat).1 ∧ (T.f (↑z : Int).toNat).1 ≤ (1048576 : Int)) → (0 : Int) ≤ (↑z : Int) ∧ (↑z : Int) < (↑T.1 : Int) ∧ (¬((0 : Int) ≤ (T.f (↑z : Int).toNat).2 ∧ (T.f (↑z : Int).toNat).2 ≤ (15 : Int)) → (false = true ↔ okTl T) ∧ True) ∧ (¬¬((0 : Int) ≤ (T.f (↑z : Int).toNat).2 ∧ (T.f (↑z : Int).toNat).2 ≤ (15 : Int)) → (0 : Int) ≤ (↑z : Int) ∧ (↑z : Int) < (↑T.1 : Int) ∧ (¬okSp (T.f (↑z : Int).toNat).lo (T.f (↑z :
 Int).toNat).hi → (false = true ↔ okTl T) ∧ True) ∧ (¬¬okSp (T.f (↑z : Int).toNat).lo (T.f (↑z : Int).toNat).hi → rI ((↑z : Int) + (1 : Int)) ∧ ∃ (z_1 : Nat), (z_1 ≤ T.1 ∧ ∀ (i : Nat), i < z_1 → okTs (T.f i)) ∧ T.1 - z_1 < T.1 - z ∧ T.1 = T.1 ∧ (∀ (i : Nat), i < T.1 → rE ((T.f i).sv.den) ∧ True ∧ True ∧ True ∧ True ∧ True) ∧ (↑z : Int) + (1 : Int) = (↑z_1 : Int) ∧ True)))) ∧ (¬(↑z : Int) < (↑T.1 : Int) → (rE true ↔ okTl T) ∧ True)) := by kernel_rfl
theorem rdeG_vc (d : De) : rdeG d =
 ((0 : Nat) < (1 : Nat) ∧
  ((1 : Int) ≤ d.1 ∧ d.1 ≤ (10000 : Int) →
      (0 : Nat) < (1 : Nat) ∧
        ((0 : Int) ≤ d.2 ∧ d.2 ≤ (10000 : Int) →
            (0 : Nat) < (1 : Nat) ∧
              (0 : Nat) < (1 : Nat) ∧
                ((0 : Int) ≤ d.3 ∧ d.3 ≤ d.2 →
                    (0 : Nat) < (1 : Nat) ∧ ((0 : Int) ≤ d.4 ∧ d.4 ≤ (1000000 : Int) ↔ okDe d) ∧ True) ∧
                  (¬((0 : Int) ≤ d.3 ∧ d.3 ≤ d.2) → (false = true ↔ okDe d) ∧ True)) ∧
          (¬((0 : Int) ≤ d.2 ∧ d.2 ≤ (10000 : Int)) → (false = true ↔ okDe d) ∧ True)) ∧
    (¬((1 : Int) ≤ d.1 ∧ d.1 ≤ (10000 : Int)) → (false = true ↔ okDe d) ∧ True)) := by kernel_rfl
theorem rpaG_vc (d : De) (l : Int) (n : Int) : rpaG d l n =
 ((l ≤ (0 : Int) → (0 : Int) = payI d.4 l n ∧ True) ∧
  (¬l ≤ (0 : Int) →
    (0 : Nat) < (1 : Nat) ∧
      ((-9223372036854775808 : Int) ≤ l * d.4 ∧ l * d.4 ≤ (9223372036854775807 : Int)) ∧
        ((-9223372036854775808 : Int) ≤ l * d.4 + n ∧ l * d.4 + n ≤ (9223372036854775807 : Int)) ∧
          ((-9223372036854775808 : Int) ≤ l * d.4 + n - (1 : Int) ∧
              l * d.4 + n - (1 : Int) ≤ (9223372036854775807 : Int)) ∧
            (n = (0 : Int) → False) ∧
              ((-9223372036854775808 : Int) ≤ (l * d.4 + n - (1 : Int)).tdiv n ∧
                  (l * d.4 + n - (1 : Int)).tdiv n ≤ (9223372036854775807 : Int)) ∧
                (l * d.4 + n - (1 : Int)).tdiv n = payI d.4 l n ∧ True)) := by kernel_rfl
end Go.Proofs.Ytgidaaogknikoaa

set_option maxRecDepth 100000
namespace Go.Proofs.Ytgidaaogknikoaa
open Go Go.Lg
attribute [local irreducible] funS bodyH
theorem rin_true (n a b : Int) : rinG n a b := by
  rw [rinG_vc]
  simp only [and_true, Bool.false_eq_true, false_iff]
  exact ⟨fun h => ⟨fun h2 => ⟨h, h2⟩, fun h2 => h2.2⟩, fun h h2 => h h2.1⟩
theorem rin_ok : rinC.Ok Try.prog := by
  refine ⟨by kernel_rfl, fun x k hk => ?_⟩
  simp only [rinC, frC] at hk
  split at hk
  · rename_i n a b
    have hh := rin_true n a b
    unfold rinG at hh
    exact ⟨_, Does.plain (funH_does nilS_cs nilS_x nilS_ic mixed hh) trivial, hk⟩
  · exact hk.elim
theorem rin_cs : SoundS Try.prog (ctrs [rinC]) := ctrs_sound (by intro x hx; simp at hx; subst hx; exact rin_ok)
theorem rsp_true (a b : Int) : rspG a b := by
  rw [rspG_vc]
  simp only [and_true, true_and, Nat.zero_lt_one, Bool.false_eq_true, false_iff]
  refine ⟨fun h => ⟨fun h1 => ⟨fun h2 => ⟨h, h1, h2⟩, fun h2 => h2.c⟩, fun h1 h2 => h1 h2.b⟩, fun h h2 => h h2.a⟩
theorem rsp_ok : rspC.Ok Try.prog := by
  refine ⟨by kernel_rfl, fun x k hk => ?_⟩
  simp only [rspC, vhC] at hk
  split at hk
  · rename_i a b
    have hh := rsp_true a b
    unfold rspG at hh
    exact ⟨_, Does.plain (funH_does nilS_cs nilS_x nilS_ic mixed hh) trivial, hk⟩
  · exact hk.elim
theorem rts_true {T : Tl} (hn : T.n ≤ 1000) : rtsG T := by
  rw [rtsG_vc]
  simp only [rI, rE, tt3, tt4, tt5, tt13, tt14, and_true, true_and, Nat.zero_lt_one, implies_true, Int.toNat_natCast, Bool.false_eq_true, false_iff, true_iff, Classical.not_not]
  refine ⟨⟨0, ⟨by omega, fun i hi => by omega⟩, rfl⟩, fun z hz => ⟨fun hl => ⟨by omega, hl, fun h1 hh => h1 ⟨(hh z (by omega)).h0, (hh z (by omega)).h1⟩, fun h1 => ⟨by omega, hl, fun h2 hh => h2 ⟨(hh z (by omega)).s0, (hh z (by omega)).s1⟩, fun h2 => ⟨by omega, hl, fun h3 hh => h3 (hh z (by omega)).sp, fun h3 => ⟨by omega, z + 1, ⟨by omega, fun i hi => ?_⟩, by omega, by omega⟩⟩⟩⟩, fun hl i hi => hz.2 i (by omega)⟩⟩
  by_cases e : i < z
  · exact hz.2 i e
  · have : i = z := by omega
    subst this; exact ⟨h1.1, h1.2, h2.1, h2.2, h3⟩
theorem rts_cs : SoundS Try.prog (ctrs [rinC, rspC]) := ctrs_sound (by intro x hx; simp at hx; rcases hx with rfl | rfl; exact rin_ok; exact rsp_ok)
theorem rts_ok : rtsC.Ok Try.prog := by
  refine ⟨by kernel_rfl, fun x k hk => ?_⟩
  simp only [rtsC] at hk
  split at hk
  · rename_i n f
    obtain ⟨hf, h1, hk⟩ := hk
    have hh := rts_true (T := tlOf n f) h1
    unfold rtsG at hh
    rw [← hf] at hh
    exact ⟨_, Does.plain (funH_does rts_cs nilS_x nilS_ic mixed hh) trivial, hk⟩
  · exact hk.elim
theorem rde_true (d : De) : rdeG d := by
  rw [rdeG_vc]
  simp only [and_true, true_and, Nat.zero_lt_one, Bool.false_eq_true, false_iff, Classical.not_not]
  exact ⟨fun h => ⟨fun h1 => ⟨fun h2 => ⟨fun h3 => ⟨h.1, h.2, h1.1, h1.2, h2.1, h2.2, h3.1, h3.2⟩, fun h3 => ⟨h3.p0, h3.p1⟩⟩, fun h2 h3 => h2 ⟨h3.l0, h3.l1⟩⟩, fun h1 h3 => h1 ⟨h3.d0, h3.d1⟩⟩, fun h h3 => h ⟨h3.w0, h3.w1⟩⟩
theorem rde_ok : rdeC.Ok Try.prog := by
  refine ⟨by kernel_rfl, fun x k hk => ?_⟩
  simp only [rdeC, vdC] at hk
  split at hk
  · rename_i a b c d
    have hh := rde_true ⟨a, b, c, d⟩
    unfold rdeG at hh
    exact ⟨_, Does.plain (funH_does rin_cs nilS_x nilS_ic mixed hh) trivial, hk⟩
  · exact hk.elim
theorem fiN_mono {p : Nat → Prop} {a : Nat} : ∀ {b : Nat}, a ≤ b → fiN p a ≤ fiN p b
  | 0, h => by have : a = 0 := by omega
               subst this; exact Nat.le_refl _
  | b + 1, h => by
    rcases Nat.lt_or_eq_of_le h with h2 | h2
    · have := fiN_mono (p := p) (a := a) (b := b) (by omega)
      by_cases hp : p b
      · rw [fiN_yes hp]; omega
      · rw [fiN_no hp]; exact this
    · rw [h2]; exact Nat.le_refl _
theorem erJ_a {d : De} {T : Tl} {h : Int} (he : ¬ erA d T = 0) : erJ d T h = erA d T := by rw [erJ, if_neg he]
theorem rpa_true {d : De} {l n : Int} (hp : 0 ≤ d.pay ∧ d.pay ≤ 1000000) (hl : l ≤ 100000000) (hn : 0 < l → 1 ≤ n ∧ n ≤ 1000) : rpaG d l n := by
  rw [rpaG_vc]
  simp only [rI, rE, and_true, true_and, Nat.zero_lt_one, payI]
  refine ⟨fun h => by rw [if_pos h], fun h => ?_⟩
  have b := mul_bd (a := l) (A := 100000000) (by omega) hl hp.1 hp.2
  have hn := hn (by omega)
  have := tdiv_bd (a := l * d.pay + n - 1) (b := n) (by omega) hn.1
  exact ⟨by omega, by omega, by omega, by omega, by omega, by rw [if_neg h]⟩
theorem rpa_ok : rpaC.Ok Try.prog := by
  refine ⟨by kernel_rfl, fun x k hk => ?_⟩
  simp only [rpaC] at hk
  split at hk
  · rename_i a b c d l n
    obtain ⟨h1, h2, h3, hk⟩ := hk
    have hh := rpa_true (d := ⟨a, b, c, d⟩) h1 h2 h3
    unfold rpaG at hh
    exact ⟨_, Does.plain (funH_does nilS_cs nilS_x nilS_ic mixed hh) trivial, hk⟩
  · exact hk.elim
theorem lack_pay (o : Oc) : payI o.pay (o.must * o.by' - o.sum) o.by' = dueI o := by
  unfold payI dueI
  by_cases h : keP o
  · rw [if_pos h, if_pos (by unfold keP at h; omega)]
  · rw [if_neg h, if_neg (by unfold keP at h; omega)]
theorem cmpK_lt (a b : Int × Int) : cmpK a b < 0 ↔ ltK a b := by
  unfold cmpK orI cmpI ltK
  repeat' split
  all_goals omega
theorem ver_ke {d : De} {T : Tl} {i : Nat} (h : erA d T = 0) (hi : i < T.n) : keI d T (T.f i).h = (verK d T i).1 := by
  obtain ⟨k1, k2, k3⟩ := erA_ok h
  have t := k2 i hi
  have w0 := k3.w0
  have g := (win_get (T := T) (h := (T.f i).h) (p := d.w) (z := i) ⟨by omega, Int.le_refl _⟩ hi).1
  have e : erJ d T (T.f i).h = 0 := by rw [erJ, if_pos h, if_pos ⟨t.h0, t.h1⟩, if_neg (by omega)]
  rw [keI, if_pos e]; rfl
theorem sur_bd (a b : Oc) : 0 ≤ surI a b ∧ surI a b ≤ 2 := by
  unfold surI
  repeat' split
  all_goals omega
end Go.Proofs.Ytgidaaogknikoaa

set_option maxRecDepth 100000
namespace Go.Proofs.Ytgidaaogknikoaa
open Go Go.Lg
attribute [local irreducible] funS bodyH
theorem ltK_irr (a : Int × Int) : ¬ ltK a a := by unfold ltK; omega
theorem ltK_trans {a b c : Int × Int} (h : ltK a b) (h2 : ltK b c) : ltK a c := by unfold ltK at *; omega
theorem least_min {v : Nat → Int × Int} : ∀ {m : Nat}, 0 < m → (∃ i, i < m ∧ leastJ v m = v i) ∧ ∀ j, j < m → ¬ ltK (v j) (leastJ v m)
  | 0, h => by omega
  | m + 1, _ => by
    by_cases hm : m = 0 ∨ cmpK (v m) (leastJ v m) < 0
    · rw [least_in hm]
      refine ⟨⟨m, by omega, rfl⟩, fun j hj => ?_⟩
      by_cases e : j = m
      · subst e; exact ltK_irr _
      · rcases hm with hm | hm
        · omega
        · have ih := (least_min (v := v) (m := m) (by omega)).2 j (by omega)
          exact fun h => ih (ltK_trans h ((cmpK_lt _ _).1 hm))
    · have h0 : ¬ m = 0 := fun h => hm (.inl h)
      have h1 : ¬ cmpK (v m) (leastJ v m) < 0 := fun h => hm (.inr h)
      rw [least_out h0 h1]
      obtain ⟨⟨i, hi, he⟩, h2⟩ := least_min (v := v) (m := m) (by omega)
      refine ⟨⟨i, by omega, he⟩, fun j hj => ?_⟩
      by_cases e : j = m
      · subst e; exact fun h => h1 ((cmpK_lt _ _).2 h)
      · exact h2 j (by omega)
end Go.Proofs.Ytgidaaogknikoaa
