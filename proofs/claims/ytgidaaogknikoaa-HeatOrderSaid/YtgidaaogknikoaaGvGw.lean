import Derived.Test.YtgidaaogknikoaaGpGpVGqGtGtVGu
set_option linter.unusedVariables false
set_option linter.unusedSimpArgs false
set_option maxRecDepth 100000
namespace Go.Proofs.Ytgidaaogknikoaa
open Go Go.Lg
attribute [local irreducible] funS bodyH
theorem tes_true {x : TsP} (hx : x.ok) : tesG x := by
  rw [tesG_vc]
  simp only [rI, rE, tt3, tt4, tt5, tt13, tt14, and_true, true_and, Nat.zero_lt_one, implies_true, and_self, Classical.not_not, Int.toNat_natCast, Bool.false_eq_true, false_iff, true_iff]
  have hn := hx.n
  have hp := hx.p
  have hu := hx.u
  have no : ∀ z, ¬ tesQ x.T x.s x.u x.p z → ¬ ((x.T.f z).s = x.s ∧ (x.T.f z).h ≤ x.u ∧ x.u - x.p < (x.T.f z).h) → ¬ tesQ x.T x.s x.u x.p (z + 1) := by
    rintro z h1 h2 ⟨i, hi, h⟩
    by_cases e : i < z
    · exact h1 ⟨i, e, h⟩
    · have : i = z := by omega
      subst this; exact h2 h
  refine ⟨⟨0, by omega, fun ⟨i, hi, _⟩ => by omega, rfl⟩, fun z hz => ⟨fun hl => ⟨fun h => ⟨by omega, z + 1, by omega, by omega, ?_, by omega⟩, fun h => ⟨by omega, hl, fun h1 => ⟨by omega, hl, fun h2 => ⟨by omega, hl, by omega, by omega, z + 1, by omega, by omega, ?_, by omega⟩, fun h2 => ⟨by omega, z + 1, by omega, by omega, no z h fun y => h2 y.2.1, by omega⟩⟩, fun h1 => ⟨by omega, z + 1, by omega, by omega, no z h fun y => h1 y.1, by omega⟩⟩⟩, fun hl => ?_⟩⟩
  · obtain ⟨i, hi, h⟩ := h
    exact ⟨i, by omega, h⟩
  · constructor
    · intro h3
      exact ⟨z, by omega, h1, h2, h3⟩
    · intro h3
      apply Classical.byContradiction
      intro h4
      exact no z h (fun y => h4 y.2.2) h3
  · have : z = x.T.n := by omega
    rw [this]
theorem tes_ok : tesC.Ok Try.prog := by
  refine ⟨by kernel_rfl, fun x hx => ?_⟩
  have hh := tes_true hx
  unfold tesG at hh
  exact stH_ok nilS_cs nilS_x nilS_ic mixed hh
theorem hoT_true {d : De} {T : Tl} {st p lo hi a : Int} (hn : T.n ≤ 100) (ha : 0 ≤ a ∧ a < 65536) : hoT d T st p lo hi a := by
  unfold hoT
  simp only [rI, rE, tt3, tt4, tt5, tt13, tt14, and_true, true_and, Nat.zero_lt_one, implies_true, and_self, Classical.not_not, Int.toNat_natCast, Bool.false_eq_true, tesQ_gap, not_true_eq_false, false_implies, imp_false]
  refine ⟨fun h => ?_, fun h => ⟨fun h4 => ?_, fun h4 => ?_⟩⟩
  · obtain ⟨_, hm, _⟩ := erM_ok (.inl h)
    have f := mi_facts h
    have f1 := f.l
    have f2 := f.h
    have f3 := f.s0
    have f4 := f.s1
    have m0 := hm.s1
    have m1 := hm.p0
    have m2 := hm.p1
    have m3 := hm.h.a
    have m4 := hm.h.b
    have m5 := hm.h.c
    have ok : ∀ s u : Int, -1100000 ≤ u ∧ u ≤ 1100000 → (TsP.mk d T p s u).ok := fun s u hu => ⟨hn, ⟨by show 0 ≤ p; omega, by show p ≤ 1100000; omega⟩, hu⟩
    refine ⟨by omega, by omega, by omega, fun _ => ⟨by omega, fun _ => ⟨by omega, fun _ => ⟨by omega, fun _ => ⟨ok _ _ (by omega), f.g, fun _ => ⟨⟨0, by omega, rfl⟩, fun z hz => ⟨fun hl => ⟨ok _ _ (by omega), f.z z hl, fun _ => ⟨by omega, z + 1, by omega, by omega, by omega⟩⟩, fun hl => ⟨by omega, by omega, fun hne => ⟨by omega, ok _ _ (by omega), ?_⟩⟩⟩⟩⟩⟩⟩⟩⟩
    exact f.x _ (by omega) (by omega)
  · rw [miH, miS, if_neg h, if_neg h]
    simp
  · obtain ⟨_, hm, _⟩ := erM_ok (.inr h4)
    have m0 := hm.s1
    have m1 := hm.p0
    have m2 := hm.p1
    have m3 := hm.h.a
    have m4 := hm.h.b
    have m5 := hm.h.c
    have e1 : miH T st p lo hi = 0 := by rw [miH, if_neg h]
    have e2 : miS T st p lo hi = 0 := by rw [miS, if_neg h]
    have ok : ∀ s u : Int, -1100000 ≤ u ∧ u ≤ 1100000 → (TsP.mk d T p s u).ok := fun s u hu => ⟨hn, ⟨by show 0 ≤ p; omega, by show p ≤ 1100000; omega⟩, hu⟩
    refine ⟨by omega, by omega, by omega, by omega, ⟨0, by omega, rfl⟩, fun z hz => ⟨fun hl => ⟨fun h5 => ⟨ok _ _ (by omega), mi_facts4 h4 hl (by omega) h5, fun _ => ⟨by omega, z + 1, by omega, by omega, by omega⟩⟩, fun _ => ?_⟩, fun _ => ?_⟩⟩
    · rw [e1, e2]; simp
    · rw [e1, e2]; simp
end Go.Proofs.Ytgidaaogknikoaa

set_option maxRecDepth 100000
namespace Go.Proofs.Ytgidaaogknikoaa
open Go Go.Lg
attribute [local irreducible] funS bodyH
theorem rot_fold (T : Tl) (a : Int) : (tlOf T.n fun i => ((rotT T a).f i).sv) = rotT T a := rfl
theorem modA {z n : Nat} {a : Int} (ha : 0 ≤ a) : ((z : Int) + a).tmod (n : Int) = (((z + a.toNat) % n : Nat) : Int) := by
  rw [show (z : Int) + a = ((z + a.toNat : Nat) : Int) by omega, modN]
theorem ho_true {d : De} {T : Tl} {h st p lo hi a : Int} (ha : 0 ≤ a ∧ a < 65536) : hoG d T h st p lo hi a := by
  rw [hoG_vc]
  simp only [rI, rE, tt3, tt4, tt5, tt13, tt14, and_true, true_and, Nat.zero_lt_one, and_self, implies_true, Int.toNat_natCast, Nat.zero_add, Nat.add_zero, Nat.one_mul, Nat.mul_one, Classical.not_not, iff_self, Bool.false_eq_true, imp_false, and_imp, true_implies, forall_const, Int.toNat_zero]
  intro h1
  have hn : T.n ≤ 1000 := by omega
  have m0 : (0 + a).tmod (T.n : Int) = (((0 + a.toNat) % T.n : Nat) : Int) := modA (z := 0) ha.1
  refine ⟨⟨fun h2 => ?_, fun h2 => ?_⟩, fun z hz1 hz2 => ⟨fun hl => ?_, fun hl => ?_⟩⟩
  · have hm := Nat.mod_lt (0 + a.toNat) (by omega : 0 < T.n)
    rw [m0]
    refine ⟨⟨by omega, by omega, by omega, by omega, by omega, by omega, by omega, by omega, rfl, fun i hi => ?_⟩, fun z hz1 hz2 => ⟨by omega, z + 1, by omega, by omega, rfl, by omega, rfl⟩⟩
    have : i = 0 := by omega
    subst this
    rw [Int.toNat_natCast]
    exact ⟨rfl, rfl, rfl, rfl⟩
  · have hz : T.n = 0 := by omega
    have E := zT_eqv hz
    obtain ⟨e1, e2⟩ := eq_d E d h
    obtain ⟨e3, e4, e5⟩ := eq_wo E d
    obtain ⟨e6, e7, e8⟩ := eq_mi E st p lo hi
    exact ⟨hn, hn, hn, ⟨e1, e2⟩, fun _ _ => ⟨eq_erJ E d h, fun _ => ⟨e3, fun _ => ⟨e4, fun _ => ⟨e5, fun _ => ⟨e6, fun _ => ⟨e7, fun _ => ⟨e8, fun _ => hoT_true (by omega) ha⟩⟩⟩⟩⟩⟩⟩⟩
  · have hm := Nat.mod_lt (z + a.toNat) (by omega : 0 < T.n)
    rw [modA ha.1, Int.toNat_natCast]
    refine ⟨⟨by omega, by omega, by omega, by omega, by omega, by omega, by omega, by omega, fun i hi => ?_⟩, fun z1 hz1 hz2 => ⟨by omega, z1 + 1, by omega, by omega, rfl, by omega, rfl⟩⟩
    by_cases e : i < z
    · simp only [if_pos e, and_self]
    · have : i = z := by omega
      subst this
      simp only [if_neg e]
      exact ⟨rfl, rfl, rfl, rfl⟩
  · have : z = T.n := by omega
    subst this
    have E := rot_eqv T a
    obtain ⟨e1, e2⟩ := eq_d E d h
    obtain ⟨e3, e4, e5⟩ := eq_wo E d
    obtain ⟨e6, e7, e8⟩ := eq_mi E st p lo hi
    rw [rot_fold]
    exact ⟨hn, by omega, rfl, hn, hn, by omega, rfl, hn, hn, by omega, rfl, hn, ⟨e1, e2⟩, fun _ _ => ⟨eq_erJ E d h, fun _ => ⟨e3, fun _ => ⟨e4, fun _ => ⟨e5, fun _ => ⟨e6, fun _ => ⟨e7, fun _ => ⟨e8, fun _ => hoT_true (by omega) ha⟩⟩⟩⟩⟩⟩⟩⟩
theorem nil_rel {c : Nat → Nat → Option Value} {I : Nat → Prop} {N : Nat} {β : Nat → Option Lg.Loc} {v : Value} (h : Rel c I N β (.sc (.slice none 0 0)) v) : Rel c I N β (.isl 4 []) v := by
  cases h with
  | sc _ => exact .islz 4 none
theorem nil_does {g : FuncId} {fr : Bool} {pre post : List AV} {res : AV} (h : Does Try.prog g fr (pre ++ .isl 4 [] :: post) res) : Does Try.prog g fr (pre ++ .sc (.slice none 0 0) :: post) res := by
  intro w I vals hI hr
  refine h w I vals hI ?_
  clear h
  generalize vals.toList = l at hr
  induction pre generalizing l with
  | nil =>
    obtain ⟨v, r, e, h1, h2⟩ := hr.cons
    rw [e]
    exact RelL.mk (nil_rel h1) h2
  | cons x pre ih =>
    obtain ⟨v, r, e, h1, h2⟩ := hr.cons
    rw [e]
    exact RelL.mk h1 (ih _ h2)
theorem deM_ok : deM.Ok Try.prog := by
  refine ⟨by kernel_rfl, fun x k hk => ?_⟩
  simp only [deM] at hk
  split at hk
  · rename_i a b c d h
    obtain ⟨res, h1, h2⟩ := de_ok.2 [(De.mk a b c d).sv, zT.sv, i6 h] (fun r => r = .tup [.agg [i6 (dL ⟨a, b, c, d⟩ zT h), i6 (dH ⟨a, b, c, d⟩ zT h)], i6 (erJ ⟨a, b, c, d⟩ zT h)]) ⟨rfl, by show 0 ≤ 1000; omega, rfl⟩
    subst h2
    exact ⟨_, nil_does (pre := [(De.mk a b c d).sv.den]) (post := [(i6 h).den]) h1, hk⟩
  · exact de_ok.2 _ k hk
theorem woM_ok : woM.Ok Try.prog := by
  refine ⟨by kernel_rfl, fun x k hk => ?_⟩
  simp only [woM] at hk
  split at hk
  · rename_i a b c d
    obtain ⟨res, h1, h2⟩ := wo_ok.2 [(De.mk a b c d).sv, zT.sv] (fun r => r = .tup [i6 (woH ⟨a, b, c, d⟩ zT), i6 (woK ⟨a, b, c, d⟩ zT), i6 (erW ⟨a, b, c, d⟩ zT)]) ⟨rfl, by show 0 ≤ 1000; omega, rfl⟩
    subst h2
    exact ⟨_, nil_does (pre := [(De.mk a b c d).sv.den]) (post := []) h1, hk⟩
  · exact wo_ok.2 _ k hk
theorem miM_ok : miM.Ok Try.prog := by
  refine ⟨by kernel_rfl, fun x k hk => ?_⟩
  simp only [miM] at hk
  split at hk
  · rename_i st p lo hi
    obtain ⟨res, h1, h2⟩ := mi_ok.2 [zT.sv, i6 st, i6 p, .agg [i6 lo, i6 hi]] (fun r => r = .tup [i6 (miH zT st p lo hi), i6 (miS zT st p lo hi), i6 (erM zT st p lo hi)]) ⟨rfl, by show 0 ≤ 1000; omega, rfl⟩
    subst h2
    exact ⟨_, nil_does (pre := []) (post := [(i6 st).den, (i6 p).den, (SV.agg [i6 lo, i6 hi]).den]) h1, hk⟩
  · exact mi_ok.2 _ k hk
theorem csO_ok : SoundS Try.prog csO := ctrsQ_sound (ctrs_sound (by
  intro x hx
  simp only [List.mem_cons, List.not_mem_nil, or_false] at hx
  rcases hx with rfl | rfl | rfl | rfl
  · exact deM_ok
  · exact woM_ok
  · exact miM_ok
  · exact alive_ok)) (by intro x hx; simp at hx; subst hx; exact tes_ok)
theorem ho_does {d : De} {T : Tl} {h st p lo hi a : Int} (ha : 0 ≤ a ∧ a < 65536) : Does Try.prog 8 false (SV.denL [d.sv, T.sv, i6 h, i6 st, i6 p, .agg [i6 lo, i6 hi], .int .u16 a]) (.sc (.bool true)) := by
  have hh := ho_true (d := d) (T := T) (h := h) (st := st) (p := p) (lo := lo) (hi := hi) ha
  unfold hoG at hh
  exact funH_does csO_ok nilS_x nilS_ic mixed hh
end Go.Proofs.Ytgidaaogknikoaa
