import Derived.Test.YtnbeifpcmjnlkaaDgDgVDhV
import Derived.Test.YtnbeifpcmjnlkaaCd
import Derived.Test.YtnbeifpcmjnlkaaBp
set_option linter.unusedVariables false
set_option linter.unusedSimpArgs false
set_option maxRecDepth 100000
namespace Go.Proofs.Ytnbeifpcmjnlkaa
open Go Go.Lg
attribute [local irreducible] bodyH
theorem p_fold2 (p : Pl) : pOf (SV.agg [SV.int IntKind.i64 p.k, SV.lst 4 p.f.n p.f.el]) = p := rfl
theorem lss_s {p : Pl} {t : Nat → Int} {i : Nat} : Lss p t (i + 1) ↔ Lss p t i ∨ truV p i < t i := by
  constructor
  · rintro ⟨j, hj, h⟩
    by_cases e : j = i
    · subst e; exact .inr h
    · exact .inl ⟨j, by omega, h⟩
  · rintro (⟨j, hj, h⟩ | h)
    · exact ⟨j, by omega, h⟩
    · exact ⟨i, by omega, h⟩
theorem rs_no {z : Rs} (h : rsI z) (hi : z.i < z.p.f.n) (hl : ¬ Lss z.p z.t z.i) : truV z.p z.i ≤ z.t z.i :=
  tru_first h.p h.t hi fun j hj => (h.e hl j hj).symm
theorem rs_next {z : Rs} (h : rsI z) (hi : z.i < z.p.f.n) : rsI ⟨z.i + 1, z.p, z.t⟩ := by
  refine ⟨h.p, h.t, hi, h.c, fun hl j hj => ?_⟩
  have hl : ¬ Lss z.p z.t (z.i + 1) := hl
  rw [lss_s, not_or] at hl
  have hj : j < z.i + 1 := hj
  by_cases e : j = z.i
  · subst e
    have := rs_no h hi hl.1
    have h2 := hl.2
    show z.t z.i = truV z.p z.i
    omega
  · exact h.e hl.1 j (by omega)
theorem rs_tg {z : Rs} (h : rsI z) (hi : z.i < z.p.f.n) : z.p.f.lo z.i ≤ tgE false z.p z.i ∧ tgE false z.p z.i ≤ z.t z.i ∧ z.t z.i ≤ tgE true z.p z.i ∧ tgE true z.p z.i ≤ z.p.f.hi z.i := by
  have g := tg_in h.p (hof_of h.p h.t) hi
  have q := tg_of h.p h.t hi
  omega
theorem is_ch {p : Pl} (hp : okP p) {n : Nat} {t : Nat → Int} (h : isP p n t) : n = p.f.n ∧ rsI ⟨0, p, t⟩ ∧ chE p = 0 ∧ okN p = p.f.n ∧ wrE p = 4 ∧ wrL p = [] ∧ isP p p.f.n (truV p) := by
  obtain ⟨h1, h2⟩ := (isP_iff hp).1 h
  have hh := hof_of hp h2
  obtain ⟨c1, c2⟩ := chE_ok hp hh
  have w : wrE p = 4 := by rw [wrE, if_pos hp, cEx_hof.2 hh]; rfl
  have s := isP_self c1
  rw [c2] at s
  exact ⟨h1, ⟨hp, h2, Nat.zero_le _, c1, fun _ j (hj : j < 0) => absurd hj (Nat.not_lt_zero _)⟩, c1, c2, w, by rw [wrL, if_neg (by omega)], s⟩
theorem kk_in {a : Int} (ha : 0 ≤ a ∧ a < 256) : 2 ≤ KK a ∧ KK a ≤ 8 := by
  have h1 : 0 ≤ a.tmod 7 := Int.tmod_nonneg _ ha.1
  have h2 : a.tmod 7 < 7 := Int.tmod_lt_of_pos _ (by omega)
  unfold KK; omega
theorem okG_of {p : Pl} (h : okP p) : okG p := by
  have hk := h.k
  refine ⟨by have := h.n; omega, fun i hi => ?_, fun i hi => ?_, fun i hi => ?_, fun i hi => ?_⟩
  · have := h.fr i hi; omega
  · have := h.to i hi; omega
  · have := h.gas i hi; omega
  · have := h.gas i hi; omega
theorem tr_true {a : Int} {s g w : Us} (ha : 0 ≤ a ∧ a < 256) (hs : okU 256 s) (hg : okU 65536 g) (hw : okU 256 w) : truG' a s g w := by
  rw [truG'_vc]
  simp only [rI, rE, tt3, tt4, tt5, tt13, tt14, and_true, true_and, Nat.zero_lt_one, and_self, implies_true, Int.toNat_natCast, Nat.zero_add, Nat.add_zero, Nat.one_mul, Nat.mul_one, Classical.not_not, iff_self, Bool.false_eq_true, imp_false, and_imp, true_implies, forall_const, p_fold2]
  have hK := kk_in ha
  have hKK : 2 + a.tmod 7 = KK a := rfl
  rw [hKK]
  intro hs0 hg0 hw0
  refine ⟨by omega, by omega, by omega, rfl, rfl, rfl, ⟨hK, by show 0 < g.n; omega, by show 0 < w.n; omega, hs, hg, hw⟩, fun z hz => ⟨rfl, rfl, okG_of hz, fun hI => ?_⟩⟩
  obtain ⟨e1, e2, e3, e4, e5, e6, e7⟩ := is_ch hz hI
  have e1 : z.f.n = (plK (KK a) z.f).f.n := e1
  generalize hp : plK (KK a) z.f = p at *
  have hpf : z.f = p.f := by rw [← hp]; rfl
  rw [e4, e5, e6]
  refine ⟨rfl, rfl, rfl, e3, fun _ => ⟨e3, fun _ => ⟨rfl, fun _ => ⟨rfl, fun _ => ⟨by rw [e1], fun _ => ⟨rfl, rfl, okG_of hz, e7, fun _ => ⟨?_, ?_⟩⟩⟩⟩⟩⟩⟩
  · refine ⟨⟨0, p, z.t⟩, e2, e1, fun i hi => rfl, rfl, fun i hi => rfl, rfl, fun i hi => rfl, ?_, rfl, ?_, rfl, fun i hi => rfl⟩
    · constructor
      · intro h; exact h.elim
      · rintro ⟨j, hj, _⟩; have hj : j < 0 := hj; omega
    · rw [← hp]; rfl
  · intro z hz hi
    have hi' : z.i < z.p.f.n := by omega
    obtain ⟨t1, t2, t3, t4⟩ := rs_tg hz hi'
    have hn := hz.p.n
    refine ⟨by omega, hi, by omega, hi, by omega, fun _ => ⟨by omega, hi, by omega, hi, by omega, fun _ => ⟨by omega, hi, by omega, hi, by omega, fun _ => ⟨by omega, hi, by omega, hi, by omega, fun _ => ⟨fun hl => ⟨by omega, ?_⟩, fun hl => ⟨by omega, hi, by omega, hi, fun hq => ⟨by omega, hi, by omega, hi, ?_, fun _ => ⟨by omega, ?_⟩⟩, fun hq => ⟨by omega, ?_⟩⟩⟩⟩⟩⟩⟩
    · exact ⟨⟨z.i + 1, z.p, z.t⟩, rs_next hz hi', by show z.p.f.n - (z.i + 1) < z.p.f.n - z.i; omega, rfl, fun _ _ => rfl, rfl, fun _ _ => rfl, rfl, fun _ _ => rfl, by show True ↔ Lss z.p z.t (z.i + 1); rw [lss_s]; simp [hl], rfl, rfl, rfl, fun _ _ => rfl⟩
    · have := rs_no hz hi' hl; omega
    · exact ⟨⟨z.i + 1, z.p, z.t⟩, rs_next hz hi', by show z.p.f.n - (z.i + 1) < z.p.f.n - z.i; omega, rfl, fun _ _ => rfl, rfl, fun _ _ => rfl, rfl, fun _ _ => rfl, by show truV z.p z.i < z.t z.i ↔ Lss z.p z.t (z.i + 1); rw [lss_s]; simp [hl], rfl, rfl, rfl, fun _ _ => rfl⟩
    · exact ⟨⟨z.i + 1, z.p, z.t⟩, rs_next hz hi', by show z.p.f.n - (z.i + 1) < z.p.f.n - z.i; omega, rfl, fun _ _ => rfl, rfl, fun _ _ => rfl, rfl, fun _ _ => rfl, by show truV z.p z.i < z.t z.i ↔ Lss z.p z.t (z.i + 1); rw [lss_s]; simp [hl], rfl, rfl, rfl, fun _ _ => rfl⟩
end Go.Proofs.Ytnbeifpcmjnlkaa

set_option maxRecDepth 100000
namespace Go.Proofs.Ytnbeifpcmjnlkaa
open Go.Lg Go.ChangeShapes Go.WideShapes Go.ChangeAt Go.RowKit
attribute [local irreducible] bodyH
variable {H : Type} {enc : TypeId × Value → H} {w : World}
abbrev UA8 : Type := { z : Int // 0 ≤ z ∧ z < 256 }
def UA8.cs (m : UA8) : List Value := [.int .u8 m.1]
def UA8.av (m : UA8) : AV := .sc (.int .u8 m.1)
theorem read_u8 (n : Nat) (cs : List Value) (y : DataW H × List MemPlace) (h : DataW.trod enc Try.prog w 0 (fun _ => true) true n 5 cs = some y) : ∃ m : UA8, cs = UA8.cs m ∧ (UA8.cs m).length = 1 := by
  obtain ⟨z, h5, _, hw⟩ := DataW.trod_int Try.underlying5 h
  simp only [Lit.wf, Bool.and_eq_true, decide_eq_true_eq, IntKind.min, IntKind.max, IntKind.signed, IntKind.bits, Bool.false_eq_true, if_false] at hw
  exact ⟨⟨z, by omega, by omega⟩, h5, rfl⟩
def of8 (ms : List UA8) : Us := ⟨ms.length, fun k => (ms.getD k ⟨0, by omega⟩).1⟩
theorem den8 (ms : List UA8) : (of8 ms).s8.den = .isl 1 (ms.map UA8.av) := by
  simp only [of8, Us.s8, SV.den]
  congr 1
  apply List.ext_getElem
  · simp
  · intro i h1 h2
    simp at h1 h2
    simp [UA8.av, h2]
theorem read_s8 {base : Nat} {v : Value} {d : DataW H} {p : List MemPlace} (hv : Value.okWide Try.prog w .any base 39 v) (h : DataW.Trod enc Try.prog w 0 (fun _ => true) true 39 v d p) :
    ∃ b : Us, okU 256 b ∧ Rel (cellf w) (fun b => b < w.heap.size) 0 noβ b.s8.den v := by
  obtain ⟨fuel, h⟩ := h
  have hc : v.cells.toList = [v] := by
    unfold Value.okWide at hv
    rw [Try.underlying39] at hv
    cases v <;> first | rfl | (simp [Cell.okWide, Cell.ok, Try.underlying39] at hv)
  rw [hc] at h
  obtain ⟨v', ms, e, hr, _, _⟩ := rel_slice UA8.cs UA8.av (fun m => rfl) (show Try.prog.cellsOf 5 = 1 by kernel_rfl) (by omega) Try.underlying39 read_u8 h
  cases e
  refine ⟨of8 ms, ⟨fun k hk => (ms.getD k ⟨0, by omega⟩).2⟩, ?_⟩
  rw [den8]
  exact hr
theorem read39 : Try.prog.readableRec 39 = true ∧ 39 < Try.prog.types.size := ⟨by kernel_rfl, of_decide_eq_true (by kernel_rfl)⟩
abbrev UA16 : Type := { z : Int // 0 ≤ z ∧ z < 65536 }
def UA16.cs (m : UA16) : List Value := [.int .u16 m.1]
def UA16.av (m : UA16) : AV := .sc (.int .u16 m.1)
theorem read_u16 (n : Nat) (cs : List Value) (y : DataW H × List MemPlace) (h : DataW.trod enc Try.prog w 0 (fun _ => true) true n 87 cs = some y) : ∃ m : UA16, cs = UA16.cs m ∧ (UA16.cs m).length = 1 := by
  obtain ⟨z, h5, _, hw⟩ := DataW.trod_int Try.underlying87 h
  simp only [Lit.wf, Bool.and_eq_true, decide_eq_true_eq, IntKind.min, IntKind.max, IntKind.signed, IntKind.bits, Bool.false_eq_true, if_false] at hw
  exact ⟨⟨z, by omega, by omega⟩, h5, rfl⟩
def of16 (ms : List UA16) : Us := ⟨ms.length, fun k => (ms.getD k ⟨0, by omega⟩).1⟩
theorem den16 (ms : List UA16) : (of16 ms).s16.den = .isl 1 (ms.map UA16.av) := by
  simp only [of16, Us.s16, SV.den]
  congr 1
  apply List.ext_getElem
  · simp
  · intro i h1 h2
    simp at h1 h2
    simp [UA16.av, h2]
theorem read_s16 {base : Nat} {v : Value} {d : DataW H} {p : List MemPlace} (hv : Value.okWide Try.prog w .any base 40 v) (h : DataW.Trod enc Try.prog w 0 (fun _ => true) true 40 v d p) :
    ∃ b : Us, okU 65536 b ∧ Rel (cellf w) (fun b => b < w.heap.size) 0 noβ b.s16.den v := by
  obtain ⟨fuel, h⟩ := h
  have hc : v.cells.toList = [v] := by
    unfold Value.okWide at hv
    rw [Try.underlying40] at hv
    cases v <;> first | rfl | (simp [Cell.okWide, Cell.ok, Try.underlying40] at hv)
  rw [hc] at h
  obtain ⟨v', ms, e, hr, _, _⟩ := rel_slice UA16.cs UA16.av (fun m => rfl) (show Try.prog.cellsOf 87 = 1 by kernel_rfl) (by omega) Try.underlying40 read_u16 h
  cases e
  refine ⟨of16 ms, ⟨fun k hk => (ms.getD k ⟨0, by omega⟩).2⟩, ?_⟩
  rw [den16]
  exact hr
theorem read40 : Try.prog.readableRec 40 = true ∧ 40 < Try.prog.types.size := ⟨by kernel_rfl, of_decide_eq_true (by kernel_rfl)⟩
end Go.Proofs.Ytnbeifpcmjnlkaa

set_option maxRecDepth 100000
namespace Go.Proofs.Ytnbeifpcmjnlkaa
open Go Go.Lg
attribute [local irreducible] bodyH
theorem put_ok {K : Int} {f : Fl} (hp : okP (plK K f)) (hn : f.n ≤ 15) {a t l h : Int} (ha : 0 ≤ a ∧ a < K) (ht : 0 ≤ t ∧ t < K) (hd : ¬ t = a) (hg : 0 ≤ l ∧ l ≤ h ∧ h ≤ 1073741824) :
    okP (plK K ⟨f.n + 1, fun i => if i < f.n then f.fr i else a, fun i => if i < f.n then f.to i else t, fun i => if i < f.n then f.lo i else l, fun i => if i < f.n then f.hi i else h⟩) := by
  refine ⟨hp.k, by show f.n + 1 ≤ 16; omega, fun i hi => ?_, fun i hi => ?_, fun i hi => ?_, fun i hi => ?_⟩
  · show 0 ≤ (if i < f.n then f.fr i else a) ∧ (if i < f.n then f.fr i else a) < K
    split
    · exact hp.fr i (by assumption)
    · exact ha
  · show 0 ≤ (if i < f.n then f.to i else t) ∧ (if i < f.n then f.to i else t) < K
    split
    · exact hp.to i (by assumption)
    · exact ht
  · show ¬ (if i < f.n then f.fr i else a) = (if i < f.n then f.to i else t)
    split
    · exact hp.ne i (by assumption)
    · exact fun e => hd e.symm
  · show 0 ≤ (if i < f.n then f.lo i else l) ∧ (if i < f.n then f.lo i else l) ≤ (if i < f.n then f.hi i else h) ∧ (if i < f.n then f.hi i else h) ≤ 1073741824
    split
    · exact hp.gas i (by assumption)
    · exact hg
theorem put_one {K a t l h : Int} (hk : 2 ≤ K ∧ K ≤ 8) (ha : 0 ≤ a ∧ a < K) (ht : 0 ≤ t ∧ t < K) (hd : ¬ t = a) (hg : 0 ≤ l ∧ l ≤ h ∧ h ≤ 1073741824) : okP (plK K ⟨1, fun _ => a, fun _ => t, fun _ => l, fun _ => h⟩) :=
  ⟨hk, by show (1 : Nat) ≤ 16; omega, fun _ _ => ha, fun _ _ => ht, fun _ _ => fun e => hd e.symm, fun _ _ => hg⟩
def z0 : Wk := ⟨0, 0, 0, 0, ⟨0, fun _ => 0, fun _ => 0, fun _ => 0, fun _ => 0⟩, fun _ => 0⟩
theorem nil_okP {K : Int} (hk : 2 ≤ K ∧ K ≤ 8) : okP (plK K z0.f) :=
  ⟨hk, Nat.zero_le _, fun i (h : i < 0) => absurd h (Nat.not_lt_zero _), fun i (h : i < 0) => absurd h (Nat.not_lt_zero _), fun i (h : i < 0) => absurd h (Nat.not_lt_zero _), fun i (h : i < 0) => absurd h (Nat.not_lt_zero _)⟩
section
variable {K : Int} {s : Us} {m i n i0 : Nat} {fr to lo hi t : Nat → Int} {a b nn : Int}
theorem exA (h : okP (plK K ⟨m, fr, to, lo, hi⟩)) : ∃ Z : Wk, okP (plK K Z.f) ∧ m = Z.f.n ∧ m = Z.f.n ∧ Z.f.n = m ∧ (∀ (i : Nat), i < Z.f.n → fr i = Z.f.fr i ∧ to i = Z.f.to i ∧ lo i = Z.f.lo i ∧ hi i = Z.f.hi i) ∧ Z.f.n = m ∧ ∀ (i : Nat), i < Z.f.n → t i = Z.t i :=
  ⟨⟨0, 0, 0, 0, ⟨m, fr, to, lo, hi⟩, t⟩, h, rfl, rfl, rfl, fun _ _ => ⟨rfl, rfl, rfl, rfl⟩, rfl, fun _ _ => rfl⟩
theorem exB (h : okP (plK K ⟨m, fr, to, lo, hi⟩)) (hw : wkI K s ⟨i, a, b, nn, ⟨m, fr, to, lo, hi⟩, t⟩) (hi' : i < s.n) (hn : i = n) : ∃ Z : Wk, (((wkI K s Z ∧ Z.i < s.n) ∧ okP (plK K Z.f)) ∧ Z.i = n) ∧ b = Z.b ∧ (i : Int) = (Z.i : Int) ∧ m = Z.f.n ∧ m = Z.f.n ∧ a = Z.a ∧ nn = Z.n ∧ Z.f.n = m ∧ (∀ (i : Nat), i < Z.f.n → fr i = Z.f.fr i ∧ to i = Z.f.to i ∧ lo i = Z.f.lo i ∧ hi i = Z.f.hi i) ∧ Z.f.n = m ∧ ∀ (i : Nat), i < Z.f.n → t i = Z.t i :=
  ⟨⟨i, a, b, nn, ⟨m, fr, to, lo, hi⟩, t⟩, ⟨⟨⟨hw, hi'⟩, h⟩, hn⟩, rfl, rfl, rfl, rfl, rfl, rfl, rfl, fun _ _ => ⟨rfl, rfl, rfl, rfl⟩, rfl, fun _ _ => rfl⟩
theorem exB0 (hw : wkI K s ⟨i, a, b, nn, z0.f, z0.t⟩) (hi' : i < s.n) (hn : i = n) : ∃ Z : Wk, (((wkI K s Z ∧ Z.i < s.n) ∧ (False → okP (plK K Z.f))) ∧ Z.i = n) ∧ b = Z.b ∧ (i : Int) = (Z.i : Int) ∧ a = Z.a ∧ nn = Z.n :=
  ⟨⟨i, a, b, nn, z0.f, z0.t⟩, ⟨⟨⟨hw, hi'⟩, fun h => h.elim⟩, hn⟩, rfl, rfl, rfl, rfl⟩
theorem exC (h : okP (plK K ⟨m, fr, to, lo, hi⟩)) (hm : m ≤ 15) (hw : wkI K s ⟨i + 1, a, b, nn, ⟨m, fr, to, lo, hi⟩, t⟩) (hi' : s.n - (i + 1) < s.n - i0) : ∃ Z : Wk, (wkI K s Z ∧ okP (plK K Z.f) ∧ Z.f.n ≤ 15) ∧ s.n - Z.i < s.n - i0 ∧ b = Z.b ∧ (i : Int) + 1 = (Z.i : Int) ∧ m = Z.f.n ∧ m = Z.f.n ∧ a = Z.a ∧ nn = Z.n ∧ Z.f.n = m ∧ (∀ (i : Nat), i < Z.f.n → fr i = Z.f.fr i ∧ to i = Z.f.to i ∧ lo i = Z.f.lo i ∧ hi i = Z.f.hi i) ∧ Z.f.n = m ∧ ∀ (i : Nat), i < Z.f.n → t i = Z.t i :=
  ⟨⟨i + 1, a, b, nn, ⟨m, fr, to, lo, hi⟩, t⟩, ⟨hw, h, hm⟩, hi', rfl, by simp, rfl, rfl, rfl, rfl, rfl, fun _ _ => ⟨rfl, rfl, rfl, rfl⟩, rfl, fun _ _ => rfl⟩
theorem exC0 (hw : wkI K s ⟨i + 1, a, b, nn, z0.f, z0.t⟩) (hi' : s.n - (i + 1) < s.n - i0) : ∃ Z : Wk, (wkI K s Z ∧ (False → okP (plK K Z.f) ∧ Z.f.n ≤ 15)) ∧ s.n - Z.i < s.n - i0 ∧ b = Z.b ∧ (i : Int) + 1 = (Z.i : Int) ∧ a = Z.a ∧ nn = Z.n :=
  ⟨⟨i + 1, a, b, nn, z0.f, z0.t⟩, ⟨hw, fun h => h.elim⟩, hi', rfl, by simp, rfl, rfl⟩
theorem exD (hk : 2 ≤ K ∧ K ≤ 8) : ∃ z : Wk, okP (plK K z.f) ∧ 0 = (plK K z.f).f.n ∧ 0 = z.f.n := ⟨z0, nil_okP hk, rfl, rfl⟩
theorem exE {z : Wk} (h : okP (plK K z.f)) : ∃ Z : Wk, okP (plK K Z.f) ∧ z.f.n = (plK K Z.f).f.n ∧ (plK K Z.f).f.n ≤ z.f.n ∧ (∀ (i : Nat), i < (plK K Z.f).f.n → z.f.fr i = (plK K Z.f).f.fr i ∧ z.f.to i = (plK K Z.f).f.to i ∧ z.f.lo i = (plK K Z.f).f.lo i ∧ z.f.hi i = (plK K Z.f).f.hi i) ∧ z.f.n = Z.f.n ∧ Z.f.n ≤ z.f.n ∧ ∀ (i : Nat), i < Z.f.n → z.t i = Z.t i :=
  ⟨z, h, rfl, Nat.le_refl _, fun _ _ => ⟨rfl, rfl, rfl, rfl⟩, rfl, Nat.le_refl _, fun _ _ => rfl⟩
theorem exF : ∃ z : Wk, False → okP (plK K z.f) := ⟨z0, fun h => h.elim⟩
end
theorem tm_in {x m : Int} (hx : 0 ≤ x) (hm : 0 < m) : 0 ≤ x.tmod m ∧ x.tmod m < m := ⟨Int.tmod_nonneg _ hx, Int.tmod_lt_of_pos _ hm⟩
theorem td_in {x : Int} (hx : 0 ≤ x ∧ x < 256) : 0 ≤ x.tdiv 16 ∧ x.tdiv 16 < 16 := by
  rw [Int.tdiv_eq_ediv_of_nonneg hx.1]; omega
theorem at_in {M : Int} {b : Us} (h : okU M b) (h0 : 0 < b.n) {x : Int} (hx : 0 ≤ x) : 0 ≤ x.tmod b.n ∧ x.tmod b.n < b.n ∧ 0 ≤ b.v (x.tmod b.n).toNat ∧ b.v (x.tmod b.n).toNat < M := by
  have h1 := tm_in hx (show (0 : Int) < b.n by omega)
  exact ⟨h1.1, h1.2, h.v _ (by omega)⟩
theorem exG {P : Nat → Prop} (m : Nat) (h : P m) : ∃ n : Nat, (m : Int) = (n : Int) ∧ P n := ⟨m, rfl, h⟩
theorem wkI_mk {K : Int} {s : Us} {i : Nat} {a b nn : Int} {f : Fl} {t : Nat → Int} (h1 : i ≤ s.n) (h2 : 0 ≤ a ∧ a < K) (h3 : 0 ≤ b ∧ b < K) (h4 : 0 ≤ nn ∧ nn ≤ 65535) : wkI K s ⟨i, a, b, nn, f, t⟩ := ⟨h1, h2, h3, h4⟩
theorem wkI_up {K : Int} {s : Us} {z : Wk} {f : Fl} {t : Nat → Int} (h : wkI K s z) (hi : z.i < s.n) : wkI K s ⟨z.i + 1, z.a, z.b, z.n, f, t⟩ := ⟨hi, h.a, h.b, h.n⟩
theorem wlk_true {K : Int} {s g w : Us} (hp : wlkP K s g w) : wlkG K s g w := by
  rw [wlkG_vc]
  simp only [wr0, wr1, rI, rE, tt3, tt4, tt5, tt13, tt14, wq1, wq8, wq4, wq2, wq5, wqt, wp0, wp1, wp2, wp3, wp4, wp5, wp6, wp7, wp8, wp9, wp10, wp11, wp12, wp13, wp14, wp15, wp16, wp17, rI, rE, tt3, tt4, tt5, tt13, tt14, rI, rE, tt3, tt4, tt5, tt13, tt14, and_true, true_and, Nat.zero_lt_one, and_self, implies_true, Int.toNat_natCast, Nat.zero_add, Nat.add_zero, Nat.one_mul, Nat.mul_one, Classical.not_not, iff_self, Bool.false_eq_true, imp_false, and_imp, true_implies, forall_const, Int.toNat_zero, Int.le_refl]
  obtain ⟨hk, hg0, hw0, hs, hg, hw⟩ := hp
  have gz := hg.v 0 hg0
  refine ⟨by omega, ⟨⟨0, 0, 0, g.v 0, z0.f, z0.t⟩, ⟨⟨Nat.zero_le _, ⟨Int.le_refl _, by show (0 : Int) < K; omega⟩, ⟨Int.le_refl _, by show (0 : Int) < K; omega⟩, by show 0 ≤ g.v 0 ∧ g.v 0 ≤ 65535; omega⟩, fun h => h.elim⟩, rfl, rfl, rfl, rfl⟩, fun z hz hf => ?_, fun z hz hf hn => ?_⟩
  · obtain ⟨z1, z2, z3, z4⟩ := hz
    have hsz : z.i < s.n → 0 ≤ s.v z.i ∧ s.v z.i < 256 ∧ 0 ≤ (s.v z.i).tmod K ∧ (s.v z.i).tmod K < K := fun h => by
      have h1 := hs.v _ h
      exact ⟨h1.1, h1.2, tm_in h1.1 (by omega)⟩
    have hgz := at_in hg hg0 (show (0 : Int) ≤ z.i by omega)
    have hw1 := at_in hw hw0 (show (0 : Int) ≤ ((0 : Nat) : Int) by omega)
    have hw2 := at_in hw hw0 (show (0 : Int) ≤ ((0 : Nat) : Int) + 1 by omega)
    have hw3 := td_in hw1.2.2
    have hw4 := tm_in hw1.2.2.1 (show (0 : Int) < 16 by omega)
    repeat' (first | apply And.intro | intro _ | apply exG z.i)
    all_goals first
      | omega
      | exact exF
      | exact exD hk
      | exact exE (by assumption)
      | exact exA (by assumption)
      | exact exA (put_one hk (by omega) (by omega) (by omega) (by omega))
      | exact exB (put_one hk (by omega) (by omega) (by omega) (by omega)) (wkI_mk (by omega) (by omega) (by omega) (by omega)) (by omega) rfl
      | exact exB0 (wkI_mk (by omega) (by omega) (by omega) (by omega)) (by omega) rfl
      | exact exC (by assumption) (by omega) (wkI_up (by assumption) (by assumption)) (by omega)
      | exact exC0 (wkI_up (by assumption) (by assumption)) (by omega)
      | exact exC (put_one hk (by omega) (by omega) (by omega) (by omega)) (by omega) (wkI_mk (by omega) (by omega) (by omega) (by omega)) (by omega)
      | exact exC0 (wkI_mk (by omega) (by omega) (by omega) (by omega)) (by omega)
      | skip
  · obtain ⟨z1, z2, z3, z4⟩ := hz
    have hsz : z.i < s.n → 0 ≤ s.v z.i ∧ s.v z.i < 256 ∧ 0 ≤ (s.v z.i).tmod K ∧ (s.v z.i).tmod K < K := fun h => by
      have h1 := hs.v _ h
      exact ⟨h1.1, h1.2, tm_in h1.1 (by omega)⟩
    have hgz := at_in hg hg0 (show (0 : Int) ≤ z.i by omega)
    have hw1 := at_in hw hw0 (show (0 : Int) ≤ (z.f.n : Int) by omega)
    have hw2 := at_in hw hw0 (show (0 : Int) ≤ (z.f.n : Int) + 1 by omega)
    have hw3 := td_in hw1.2.2
    have hw4 := tm_in hw1.2.2.1 (show (0 : Int) < 16 by omega)
    repeat' (first | apply And.intro | intro _ | apply exG z.i)
    all_goals first
      | omega
      | exact exF
      | exact exD hk
      | exact exE (by assumption)
      | exact exA (by assumption)
      | exact exA (put_ok hf hn (by omega) (by omega) (by omega) (by omega))
      | exact exB (by assumption) (wkI_mk (by omega) (by omega) (by omega) (by omega)) (by omega) rfl
      | exact exB (put_ok hf hn (by omega) (by omega) (by omega) (by omega)) (wkI_mk (by omega) (by omega) (by omega) (by omega)) (by omega) rfl
      | exact exB0 (wkI_mk (by omega) (by omega) (by omega) (by omega)) (by omega) rfl
      | exact exC (by assumption) (by omega) (wkI_up (by assumption) (by assumption)) (by omega)
      | exact exC0 (wkI_up (by assumption) (by assumption)) (by omega)
      | exact exC (put_ok hf hn (by omega) (by omega) (by omega) (by omega)) (by omega) (wkI_mk (by omega) (by omega) (by omega) (by omega)) (by omega)
      | exact exC (by assumption) (by omega) (wkI_mk (by omega) (by omega) (by omega) (by omega)) (by omega)
      | exact exC0 (wkI_mk (by omega) (by omega) (by omega) (by omega)) (by omega)
      | skip
end Go.Proofs.Ytnbeifpcmjnlkaa
