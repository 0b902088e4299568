import Derived.Test.YtpannbkmpbioiaaQmQn
import Derived.Test.YtpannbkmpbioiaaQoQoV
set_option linter.unusedVariables false
set_option linter.unusedSimpArgs false
namespace Go.Proofs.Ytpannbkmpbioiaa
open Go Go.Lg
theorem hs_bit (o k : Nat) : hs o k ↔ o.testBit k = true := by
  unfold hs; rw [Nat.testBit_eq_decide_div_mod_eq]; simp
open Classical in
theorem set_ex (p : Nat → Prop) : ∀ n, ∃ o, o < pw n ∧ ∀ k, k < n → (hs o k ↔ p k)
  | 0 => ⟨0, by simp [pw], fun k hk => by omega⟩
  | n + 1 => by
    obtain ⟨o, ho, h⟩ := set_ex p n
    have hb : o.testBit n = false := Nat.testBit_lt_two_pow ho
    by_cases hp : p n
    · refine ⟨2 ^ n + o, by rw [pw_succ]; unfold pw at ho ⊢; omega, fun k hk => ?_⟩
      rcases Nat.lt_succ_iff_lt_or_eq.1 hk with h' | rfl
      · rw [hs_bit, Nat.testBit_two_pow_add_gt h', ← hs_bit]; exact h k h'
      · rw [hs_bit, Nat.testBit_two_pow_add_eq, hb]; simp [hp]
    · refine ⟨o, by rw [pw_succ]; omega, fun k hk => ?_⟩
      rcases Nat.lt_succ_iff_lt_or_eq.1 hk with h' | rfl
      · exact h k h'
      · rw [hs_bit, hb]; simp [hp]
theorem up_congr {m m' : Mn} (h : m.fr = m'.fr) (j : Nat) : ∀ i, up m j i = up m' j i
  | 0 => rfl
  | i + 1 => by simp only [up]; rw [up_congr h j i, h]
theorem dpt_congr {m m' : Mn} (h : m.fr = m'.fr) : ∀ F j, dpt m F j = dpt m' F j
  | 0, j => rfl
  | F + 1, j => by simp only [dpt]; rw [h]; split; · rfl
                   · rw [dpt_congr h F]
theorem up_add (m : Mn) (j t : Nat) : ∀ s, up m j (t + s) = up m (up m j t) s
  | 0 => rfl
  | s + 1 => by
    show (m.fr (up m j (t + s) - 1)).toNat = _
    rw [up_add m j t s]; rfl
section
variable {m : Mn} (hm : okM m) {j : Nat} (hj : j ≤ m.n)
include hm hj
theorem w_at {i : Nat} (hi : i ≤ dpt m j j) : up m j i ≤ j ∧ (up m j i = 0 ↔ i = dpt m j j) ∧ (i < dpt m j j → up m j (i + 1) < up m j i) := way_at hm j j (Nat.le_refl _) hj i hi
theorem up_dec : ∀ {s t : Nat}, s < t → t ≤ dpt m j j → up m j t < up m j s := by
  intro s t hst ht
  obtain ⟨d, rfl⟩ : ∃ d, t = s + 1 + d := ⟨t - (s + 1), by omega⟩
  clear hst
  induction d with
  | zero => exact (w_at hm hj (i := s) (by omega)).2.2 (by omega)
  | succ d ih =>
    have h1 := ih (by omega)
    have h2 := (w_at hm hj (i := s + 1 + d) (by omega)).2.2 (by omega)
    rw [show s + 1 + (d + 1) = s + 1 + d + 1 by omega]; omega
theorem up_inj {s t : Nat} (hs : s ≤ dpt m j j) (ht : t ≤ dpt m j j) (h : up m j s = up m j t) : s = t := by
  rcases Nat.lt_trichotomy s t with h1 | h1 | h1
  · have := up_dec hm hj h1 ht; omega
  · exact h1
  · have := up_dec hm hj h1 hs; omega
theorem dpt_add : ∀ {t : Nat}, t ≤ dpt m j j → dpt m j j = t + dpt m (up m j t) (up m j t) := by
  intro t
  induction t with
  | zero => intro _; simp [up]
  | succ t ih =>
    intro ht
    have h1 := ih (by omega)
    have h2 := w_at hm hj (i := t) (by omega)
    have h3 := dpt_succ hm (j := up m j t) (by omega) (by omega)
    have e : up m j (t + 1) = (m.fr (up m j t - 1)).toNat := rfl
    rw [e]; omega
end
def memB (m : Mn) (b : Bool) (i x : Nat) : Prop := ∃ t, t ≤ dpt m x x ∧ up m x t = i ∧ ∀ s, s < t → pas b (m.va (up m x s - 1)) = true
def sumN (f : Nat → Int) : Nat → Int
  | 0 => 0
  | n + 1 => sumN f n + f n
theorem sumN_congr {f g : Nat → Int} : ∀ {n : Nat}, (∀ x, x < n → f x = g x) → sumN f n = sumN g n
  | 0, _ => rfl
  | n + 1, h => by simp only [sumN]; rw [sumN_congr fun x hx => h x (by omega), h n (by omega)]
theorem sumN_add (f g : Nat → Int) : ∀ n, sumN (fun x => f x + g x) n = sumN f n + sumN g n
  | 0 => rfl
  | n + 1 => by simp only [sumN]; rw [sumN_add f g n]; omega
theorem sumN_zero {f : Nat → Int} : ∀ {n : Nat}, (∀ x, x < n → f x = 0) → sumN f n = 0
  | 0, _ => rfl
  | n + 1, h => by simp only [sumN]; rw [sumN_zero fun x hx => h x (by omega), h n (by omega)]; rfl
theorem sumN_one {f : Nat → Int} {i : Nat} : ∀ {n : Nat}, i < n → (∀ x, x < n → x ≠ i → f x = 0) → sumN f n = f i
  | 0, h, _ => by omega
  | n + 1, hi, h => by
    simp only [sumN]
    by_cases e : i = n
    · subst e
      rw [sumN_zero fun x hx => h x (by omega) (by omega)]; omega
    · rw [sumN_one (i := i) (n := n) (by omega) fun x hx => h x (by omega), h n (by omega) (fun h => e h.symm)]; omega
theorem sumN_swap (f : Nat → Nat → Int) (a : Nat) : ∀ b, sumN (fun k => sumN (fun x => f k x) a) b = sumN (fun x => sumN (fun k => f k x) b) a
  | 0 => by
    show (0 : Int) = _
    exact (sumN_zero fun x hx => rfl).symm
  | b + 1 => by
    simp only [sumN]
    rw [sumN_swap f a b, ← sumN_add]
theorem sumN_le {f g : Nat → Int} : ∀ {n : Nat}, (∀ x, x < n → f x ≤ g x) → sumN f n ≤ sumN g n
  | 0, _ => Int.le_refl _
  | n + 1, h => by
    have h1 := sumN_le fun x hx => h x (Nat.lt_succ_of_lt hx)
    have h2 := h n (by omega)
    simp only [sumN]; omega
theorem sumL_append (f : Nat → Int) : ∀ l l', sumL f (l ++ l') = sumL f l + sumL f l'
  | [], l' => by simp [sumL]
  | x :: l, l' => by simp only [List.cons_append, sumL]; rw [sumL_append f l l']; omega
theorem sumL_flat (f : Nat → Int) (g : Nat → List Nat) : ∀ n, sumL f ((List.range n).flatMap g) = sumN (fun k => sumL f (g k)) n
  | 0 => rfl
  | n + 1 => by
    rw [List.range_succ, List.flatMap_append, sumL_append, sumL_flat f g n]
    simp [sumN]
open Classical in
theorem led_mem {m : Mn} (hm : okM m) (b : Bool) (f : Nat → Int) : ∀ F i, m.n + 1 - i ≤ F → i ≤ m.n → sumL f (ledL m b F i) = sumN (fun x => if memB m b i x then f x else 0) (m.n + 1)
  | 0, i, h, hi => by omega
  | F + 1, i, h, hi => by
    have key : ∀ x, x < m.n + 1 → (if memB m b i x then f x else 0) = (if x = i then f x else 0) + sumN (fun k => if (m.fr k = i ∧ pas b (m.va k) = true) ∧ memB m b (k + 1) x then f x else 0) m.n := by
      intro x hx
      have hx' : x ≤ m.n := by omega
      -- what leads on
      have ext : ∀ k, k < m.n → (m.fr k = i ∧ pas b (m.va k) = true) → ∀ t, t ≤ dpt m x x → up m x t = k + 1 → (∀ s, s < t → pas b (m.va (up m x s - 1)) = true) → t + 1 ≤ dpt m x x ∧ up m x (t + 1) = i ∧ ∀ s, s < t + 1 → pas b (m.va (up m x s - 1)) = true := by
        intro k hk hc t ht hu hp
        have h1 := w_at hm hx' ht
        have hlt : t < dpt m x x := by omega
        refine ⟨hlt, ?_, fun s hs => ?_⟩
        · show (m.fr (up m x t - 1)).toNat = i
          rw [hu, show k + 1 - 1 = k by omega, hc.1]; omega
        · rcases Nat.lt_succ_iff_lt_or_eq.1 hs with h' | rfl
          · exact hp s h'
          · rw [hu, show k + 1 - 1 = k by omega]; exact hc.2
      by_cases hxi : x = i
      · subst hxi
        have h0 : memB m b x x := ⟨0, by omega, rfl, fun s hs => by omega⟩
        rw [if_pos h0, if_pos rfl, sumN_zero]
        · omega
        · intro k hk
          apply if_neg
          rintro ⟨hc, t, ht, hu, hp⟩
          have h1 := (w_at hm hx' ht).1
          have h2 := hm k hk
          omega
      · rw [if_neg hxi]
        by_cases hb : memB m b i x
        · rw [if_pos hb]
          obtain ⟨t, ht, hu, hp⟩ := hb
          have ht0 : t ≠ 0 := fun h => hxi (by rw [h] at hu; exact hu)
          obtain ⟨t', rfl⟩ : ∃ t', t = t' + 1 := ⟨t - 1, by omega⟩
          have h1 := w_at hm hx' (i := t') (by omega)
          have hk : up m x t' - 1 < m.n := by omega
          have hfr : (m.fr (up m x t' - 1)).toNat = i := hu
          have hmk := hm _ hk
          have hq : (m.fr (up m x t' - 1) = i ∧ pas b (m.va (up m x t' - 1)) = true) ∧ memB m b (up m x t' - 1 + 1) x := ⟨⟨by omega, hp t' (by omega)⟩, t', by omega, by omega, fun s hs => hp s (by omega)⟩
          rw [sumN_one (i := up m x t' - 1) hk, if_pos hq]
          · omega
          · intro k hk' hne
            apply if_neg
            rintro ⟨hc, s, hs, hus, hps⟩
            obtain ⟨e1, e2, _⟩ := ext k hk' hc s hs hus hps
            have := up_inj hm hx' e1 ht (by rw [e2, hu])
            have : s = t' := by omega
            subst this
            omega
        · rw [if_neg hb, sumN_zero]
          · rfl
          · intro k hk
            apply if_neg
            rintro ⟨hc, t, ht, hu, hp⟩
            obtain ⟨e1, e2, e3⟩ := ext k hk hc t ht hu hp
            exact hb ⟨t + 1, e1, e2, e3⟩
    rw [sumN_congr key, sumN_add, ← sumN_swap]
    have e1 : sumN (fun x => if x = i then f x else 0) (m.n + 1) = f i := by
      rw [sumN_one (i := i) (by omega)]
      · simp
      · intro x _ hne; simp [hne]
    rw [e1]
    simp only [ledL, sumL]
    rw [sumL_flat]
    congr 1
    refine sumN_congr fun k hk => ?_
    by_cases hc : m.fr k = i ∧ pas b (m.va k) = true
    · rw [if_pos hc]
      have := hm k hk
      rw [led_mem hm b f F (k + 1) (by omega) (by omega)]
      refine sumN_congr fun x _ => ?_
      by_cases h1 : memB m b (k + 1) x
      · rw [if_pos h1, if_pos ⟨hc, h1⟩]
      · rw [if_neg h1, if_neg fun h => h1 h.2]
    · rw [if_neg hc]
      simp only [sumL]
      refine (sumN_zero fun x _ => ?_).symm
      exact if_neg fun h => hc h.1
open Classical in
theorem flow_mem {w : Nw} (h : okNet w) (b : Bool) {i : Nat} (hi : i < w.j.n) : flowS b w i = sumN (fun x => if memB w.m b i x then needE b (w.j.nl x) (w.j.nh x) else 0) w.j.n := by
  have hn := h.n
  unfold flowS led
  rw [led_mem h.okm b _ _ i (Nat.le_refl _) (by omega), hn.2.2]
open Classical in
theorem thr_sum (m : Mn) (o q : Nat) (d : Nat → Int) : ∀ J, thr m o q d J = sumN (fun x => if behW m q x ∧ onW m o x then d x else 0) J
  | 0 => rfl
  | J + 1 => by simp only [thr, sumN]; rw [thr_sum m o q d J]
end Go.Proofs.Ytpannbkmpbioiaa

namespace Go.Proofs.Ytpannbkmpbioiaa
open Go Go.Lg
theorem va_on {m : Mn} {j t : Nat} (ht : t < dpt m j j) : (opM m j).va (up m j t - 1) = 0 := by
  show vaT m j (dpt m j j) (up m j t - 1) = 0
  unfold vaT; rw [if_pos ⟨t, ht, rfl⟩]
theorem va_off {m : Mn} {j k : Nat} (h : ∀ q, q < dpt m j j → up m j q - 1 ≠ k) : (opM m j).va k = m.va k := by
  show vaT m j (dpt m j j) k = m.va k
  unfold vaT; rw [if_neg fun ⟨q, hq, e⟩ => h q hq e]
theorem va_cases (m : Mn) (j k : Nat) : (∃ q, q < dpt m j j ∧ up m j q - 1 = k ∧ (opM m j).va k = 0) ∨ ((opM m j).va k = m.va k ∧ ∀ q, q < dpt m j j → up m j q - 1 ≠ k) := by
  by_cases h : ∃ q, q < dpt m j j ∧ up m j q - 1 = k
  · obtain ⟨q, hq, rfl⟩ := h
    exact .inl ⟨q, hq, rfl, va_on hq⟩
  · have h : ∀ q, q < dpt m j j → up m j q - 1 ≠ k := fun q hq e => h ⟨q, hq, e⟩
    exact .inr ⟨va_off h, h⟩
theorem up_op (m : Mn) (j x t : Nat) : up (opM m j) x t = up m x t := up_congr (m := opM m j) (m' := m) rfl x t
theorem dpt_op (m : Mn) (j F x : Nat) : dpt (opM m j) F x = dpt m F x := dpt_congr (m := opM m j) (m' := m) rfl F x
theorem may_A {w : Nw} {j o : Nat} (ha : onA w j o) : ∀ k, k < w.m.n → hs o k → pas true ((opM w.m j).va k) = true := fun k hk hh => by
  rcases va_cases w.m j k with ⟨q, hq, e, e2⟩ | ⟨e, _⟩
  · rw [e2]; rfl
  · rw [e]
    have := (ha.may.h k hk).2
    simp only [pas, Bool.not_eq_true', decide_eq_false_iff_not]
    exact fun h1 => this ⟨h1, hh⟩
theorem may_B {w : Nw} {j o : Nat} (ha : onA w j o) : ∀ k, k < w.m.n → pas false ((opM w.m j).va k) = true → hs o k := fun k hk hp => by
  rcases va_cases w.m j k with ⟨q, hq, e, e2⟩ | ⟨e, _⟩
  · rw [← e]; exact ha.on q hq
  · rw [e] at hp
    have hp : w.m.va k = 0 := by simpa [pas] using hp
    exact Classical.byContradiction fun hn => (ha.may.h k hk).1 ⟨hp, hn⟩
section
variable {w : Nw} (h : okNet w) {j : Nat} {b : Bool} {o : Nat}
include h
theorem mem_of (hA : ∀ k, k < w.m.n → hs o k → pas b ((opM w.m j).va k) = true) {i x : Nat} (hx : x ≤ w.m.n) (h0 : 0 < i) (hb : behW w.m (i - 1) x) (ho : onW w.m o x) : memB (opM w.m j) b i x := by
  obtain ⟨t, ht, hu⟩ := hb
  refine ⟨t, by rw [dpt_op]; omega, by rw [up_op]; omega, fun s hs => ?_⟩
  rw [up_op]
  have h1 := w_at h.okm hx (i := s) (by omega)
  exact hA _ (by omega) (ho s (by omega))
theorem of_mem (hB : ∀ k, k < w.m.n → pas b ((opM w.m j).va k) = true → hs o k) {i x : Nat} (hx : x ≤ w.m.n) (h0 : 0 < i) (hoi : onW w.m o i) (hb : memB (opM w.m j) b i x) : behW w.m (i - 1) x ∧ onW w.m o x := by
  obtain ⟨t, ht, hu, hp⟩ := hb
  rw [dpt_op] at ht
  rw [up_op] at hu
  have h1 := w_at h.okm hx ht
  have hlt : t < dpt w.m x x := by omega
  have hd := dpt_add h.okm hx ht
  rw [hu] at hd
  refine ⟨⟨t, hlt, by omega⟩, fun s hs => ?_⟩
  by_cases hst : s < t
  · have h2 := w_at h.okm hx (i := s) (by omega)
    have h3 := hp s hst
    rw [up_op] at h3
    exact hB _ (by omega) h3
  · have e : up w.m x s = up w.m i (s - t) := by
      rw [← hu, ← up_add]; congr 1; omega
    rw [e]
    exact hoi (s - t) (by omega)
open Classical in
theorem flow_eq (hA : ∀ k, k < w.m.n → hs o k → pas b ((opM w.m j).va k) = true) (hB : ∀ k, k < w.m.n → pas b ((opM w.m j).va k) = true → hs o k) {i : Nat} (h0 : 0 < i) (hi : i < w.j.n) (hoi : onW w.m o i) :
    flowS b (opW w j) i = thr w.m o (i - 1) (fun x => needE b (w.j.nl x) (w.j.nh x)) w.j.n := by
  have hn := h.n
  rw [flow_mem (h.op j) b hi, thr_sum]
  refine sumN_congr fun x hx => ?_
  have hx' : x ≤ w.m.n := by have : x < w.j.n := hx; omega
  show (if memB (opM w.m j) b i x then _ else _) = _
  by_cases h1 : memB (opM w.m j) b i x
  · rw [if_pos h1, if_pos (of_mem h hB hx' h0 hoi h1)]; rfl
  · rw [if_neg h1, if_neg fun h2 => h1 (mem_of h hA hx' h0 h2.1 h2.2)]
open Classical in
theorem flow_ge (hA : ∀ k, k < w.m.n → hs o k → pas b ((opM w.m j).va k) = true) {i : Nat} (h0 : 0 < i) (hi : i < w.j.n) :
    thr w.m o (i - 1) (fun x => needE b (w.j.nl x) (w.j.nh x)) w.j.n ≤ flowS b (opW w j) i := by
  have hn := h.n
  rw [flow_mem (h.op j) b hi, thr_sum]
  refine sumN_le fun x hx => ?_
  have hx' : x ≤ w.m.n := by have : x < w.j.n := hx; omega
  have hd := need_le h b (i := x) hx
  show _ ≤ (if memB (opM w.m j) b i x then needE b (w.j.nl x) (w.j.nh x) else 0)
  by_cases h2 : behW w.m (i - 1) x ∧ onW w.m o x
  · rw [if_pos h2, if_pos (mem_of h hA hx' h0 h2.1 h2.2)]; exact Int.le_refl _
  · rw [if_neg h2]; split <;> omega
open Classical in
theorem flow_le' (hB : ∀ k, k < w.m.n → pas b ((opM w.m j).va k) = true → hs o k) {i : Nat} (h0 : 0 < i) (hi : i < w.j.n) (hoi : onW w.m o i) :
    flowS b (opW w j) i ≤ thr w.m o (i - 1) (fun x => needE b (w.j.nl x) (w.j.nh x)) w.j.n := by
  have hn := h.n
  rw [flow_mem (h.op j) b hi, thr_sum]
  refine sumN_le fun x hx => ?_
  have hx' : x ≤ w.m.n := by have : x < w.j.n := hx; omega
  have hd := need_le h b (i := x) hx
  show (if memB (opM w.m j) b i x then needE b (w.j.nl x) (w.j.nh x) else 0) ≤ _
  by_cases h1 : memB (opM w.m j) b i x
  · rw [if_pos h1, if_pos (of_mem h hB hx' h0 hoi h1)]; exact Int.le_refl _
  · rw [if_neg h1]; split <;> omega
end
theorem gov_mono {g p q : Int} (h : p ≤ q) : govd g p ≤ govd g q := by
  unfold govd; split
  · exact h
  · rcases Int.le_total p g with h1 | h1 <;> rcases Int.le_total q g with h2 | h2
    · rw [Int.min_eq_left h1, Int.min_eq_left h2]; exact h
    · rw [Int.min_eq_left h1, Int.min_eq_right h2]; exact h1
    · rw [Int.min_eq_right h1, Int.min_eq_left h2]; omega
    · rw [Int.min_eq_right h1, Int.min_eq_right h2]; exact Int.le_refl _
section
variable {w : Nw} (h : okNet w) {j : Nat} (hj : j < w.j.n) {b : Bool} {o : Nat}
include h hj
theorem on_suf (ho : onW w.m o j) {t : Nat} (ht : t ≤ dpt w.m j j) : onW w.m o (up w.m j t) := fun s hs => by
  have hn := h.n
  have hd := dpt_add h.okm (j := j) (by omega) ht
  rw [← up_add]
  exact ho (t + s) (by omega)
theorem chain (R : Int → Int → Prop) (hR : ∀ p, R p p) (hg : ∀ g p q, R p q → R (govd g p) (govd g q)) (hd : ∀ p q d f g, 0 ≤ d → R p q → R (0 - f) (0 - g) → R (p - d * f) (q - d * g)) (d : Nat → Int) (s : Int) (hs : s = srcE b w.s0 w.s1)
    (hf : ∀ t, t < dpt w.m j j → R (0 - flowS b (opW w j) (up w.m j t)) (0 - thr w.m o (up w.m j t - 1) d w.j.n)) :
    ∀ t, t ≤ dpt w.m j j → R (prS b (opW w j) (up w.m j t)) (atS w o d s (up w.m j t)) := by
  have hn := h.n
  intro t ht
  obtain ⟨c, hc⟩ : ∃ c, c = dpt w.m j j - t := ⟨_, rfl⟩
  induction c generalizing t with
  | zero =>
    have : up w.m j t = 0 := ((w_at h.okm (j := j) (by omega) ht).2.1).2 (by omega)
    rw [this, prS_zero, atS_zero, hs]
    exact hR _
  | succ c ih =>
    have hlt : t < dpt w.m j j := by omega
    have h1 := w_at h.okm (j := j) (by omega) ht
    have h2 := ih (t + 1) (by omega) (by omega)
    rw [prS_succ (h.op j) (j := up w.m j t) (by omega) (by show _ < w.j.n; omega), atS_succ h (j := up w.m j t) (by omega) (by omega)]
    refine hg _ _ _ ?_
    exact hd _ _ _ _ _ (h.ms (up w.m j t - 1) (by omega)).dr.1 h2 (hf t hlt)
theorem chain_eq (hA : ∀ k, k < w.m.n → hs o k → pas b ((opM w.m j).va k) = true) (hB : ∀ k, k < w.m.n → pas b ((opM w.m j).va k) = true → hs o k) (ho : onW w.m o j) :
    prS b (opW w j) j = atS w o (fun x => needE b (w.j.nl x) (w.j.nh x)) (srcE b w.s0 w.s1) j := by
  have hn := h.n
  refine chain h hj (fun p q => p = q) (fun _ => rfl) (fun g p q e => by rw [e]) (fun p q d f g hd e1 e2 => by rw [e1, show f = g by omega]) _ _ rfl (fun t ht => ?_) 0 (Nat.zero_le _)
  have h1 := w_at h.okm (j := j) (by omega) (i := t) (by omega)
  rw [flow_eq h hA hB (by omega) (by omega) (on_suf h hj ho (by omega))]
theorem chain_ge (hA : ∀ k, k < w.m.n → hs o k → pas b ((opM w.m j).va k) = true) :
    prS b (opW w j) j ≤ atS w o (fun x => needE b (w.j.nl x) (w.j.nh x)) (srcE b w.s0 w.s1) j := by
  have hn := h.n
  refine chain h hj (fun p q => p ≤ q) (fun _ => Int.le_refl _) (fun g p q e => gov_mono e) (fun p q d f g hd e1 e2 => ?_) _ _ rfl (fun t ht => ?_) 0 (Nat.zero_le _)
  · have := Int.mul_le_mul_of_nonneg_left (show g ≤ f by omega) hd
    omega
  · have h1 := w_at h.okm (j := j) (by omega) (i := t) (by omega)
    have := flow_ge h hA (i := up w.m j t) (by omega) (by omega)
    omega
theorem chain_le (hB : ∀ k, k < w.m.n → pas b ((opM w.m j).va k) = true → hs o k) (ho : onW w.m o j) :
    atS w o (fun x => needE b (w.j.nl x) (w.j.nh x)) (srcE b w.s0 w.s1) j ≤ prS b (opW w j) j := by
  have hn := h.n
  refine chain h hj (fun p q => q ≤ p) (fun _ => Int.le_refl _) (fun g p q e => gov_mono e) (fun p q d f g hd e1 e2 => ?_) _ _ rfl (fun t ht => ?_) 0 (Nat.zero_le _)
  · have := Int.mul_le_mul_of_nonneg_left (show f ≤ g by omega) hd
    omega
  · have h1 := w_at h.okm (j := j) (by omega) (i := t) (by omega)
    have := flow_le' h hB (i := up w.m j t) (by omega) (by omega) (on_suf h hj ho (by omega))
    omega
def freeW (w : Nw) (j : Nat) : Prop := ∀ t, t < dpt w.m j j → ¬ w.m.va (up w.m j t - 1) = 1
theorem on_free {o : Nat} (ha : onA w j o) : freeW w j := fun t ht hv => by
  have hn := h.n
  have h1 := w_at h.okm (j := j) (by omega) (i := t) (by omega)
  exact (ha.may.h _ (by omega)).2 ⟨hv, ha.on t ht⟩
theorem on_opn (hfr : freeW w j) (b : Bool) : ∃ o, o < pw w.m.n ∧ onA w j o ∧ (∀ k, k < w.m.n → (hs o k ↔ pas b ((opM w.m j).va k) = true)) := by
  have hn := h.n
  obtain ⟨o, ho, hso⟩ := set_ex (fun k => pas b ((opM w.m j).va k) = true) w.m.n
  refine ⟨o, ho, ⟨⟨fun k hk => ⟨fun ⟨h1, h2⟩ => h2 ((hso k hk).2 ?_), fun ⟨h1, h2⟩ => ?_⟩⟩, fun t ht => ?_⟩, hso⟩
  · rcases va_cases w.m j k with ⟨q, hq, e, e2⟩ | ⟨e, _⟩
    · rw [e2]; cases b <;> rfl
    · rw [e, h1]; cases b <;> rfl
  · have h3 := (hso k hk).1 h2
    rcases va_cases w.m j k with ⟨q, hq, e, e2⟩ | ⟨e, _⟩
    · rw [← e] at h1; exact hfr q hq h1
    · rw [e, h1] at h3; cases b <;> simp [pas] at h3
  · have h1 := w_at h.okm (j := j) (by omega) (i := t) (by omega)
    rw [hso _ (by omega), va_on ht]; cases b <;> rfl
theorem fnd_free : fndR w j (pw w.m.n) ↔ freeW w j :=
  ⟨fun ⟨o, ho, ha⟩ => on_free h hj ha, fun hf => by
    obtain ⟨o, ho, ha, _⟩ := on_opn h hj hf true
    exact ⟨o, ho, ha⟩⟩
theorem lw_ge {o : Nat} (ha : onA w j o) : prLo w j ≤ lwR w j o := chain_ge h hj (b := true) (may_A ha)
theorem hg_le {o : Nat} (ha : onA w j o) : hgR w j o ≤ prHi w j := chain_le h hj (b := false) (may_B ha) ha.on
theorem lw_at (hf : freeW w j) : ∃ o, o < pw w.m.n ∧ onA w j o ∧ lwR w j o = prLo w j := by
  obtain ⟨o, ho, ha, he⟩ := on_opn h hj hf true
  exact ⟨o, ho, ha, (chain_eq h hj (b := true) (fun k hk hh => (he k hk).1 hh) (fun k hk hp => (he k hk).2 hp) ha.on).symm⟩
theorem hg_at (hf : freeW w j) : ∃ o, o < pw w.m.n ∧ onA w j o ∧ hgR w j o = prHi w j := by
  obtain ⟨o, ho, ha, he⟩ := on_opn h hj hf false
  exact ⟨o, ho, ha, (chain_eq h hj (b := false) (fun k hk hh => (he k hk).1 hh) (fun k hk hp => (he k hk).2 hp) ha.on).symm⟩
end
theorem lo_min {w : Nw} {j : Nat} : ∀ {N : Nat}, fndR w j N → (∀ o, o < N → onA w j o → loR w j N ≤ lwR w j o ∧ hgR w j o ≤ upR w j N) ∧ (∃ o, o < N ∧ onA w j o ∧ loR w j N = lwR w j o) ∧ ∃ o, o < N ∧ onA w j o ∧ upR w j N = hgR w j o
  | 0, h => (fnd_zero h).elim
  | N + 1, h => by
    by_cases ha : onA w j N
    · by_cases hf : fndR w j N
      · obtain ⟨h1, ⟨o1, ho1, ha1, e1⟩, ⟨o2, ho2, ha2, e2⟩⟩ := lo_min hf
        obtain ⟨l1, l2⟩ := lo_on ha hf
        rw [l1, l2]
        refine ⟨fun o ho hao => ?_, ?_, ?_⟩
        · rcases Nat.lt_succ_iff_lt_or_eq.1 ho with h' | rfl
          · have := h1 o h' hao
            have := Int.min_le_left (loR w j N) (lwR w j N)
            have := Int.le_max_left (upR w j N) (hgR w j N)
            omega
          · have := Int.min_le_right (loR w j o) (lwR w j o)
            have := Int.le_max_right (upR w j o) (hgR w j o)
            omega
        · rcases Int.le_total (loR w j N) (lwR w j N) with h' | h'
          · exact ⟨o1, by omega, ha1, by rw [Int.min_eq_left h']; exact e1⟩
          · exact ⟨N, by omega, ha, Int.min_eq_right h'⟩
        · rcases Int.le_total (upR w j N) (hgR w j N) with h' | h'
          · exact ⟨N, by omega, ha, Int.max_eq_right h'⟩
          · exact ⟨o2, by omega, ha2, by rw [Int.max_eq_left h']; exact e2⟩
      · obtain ⟨l1, l2⟩ := lo_first ha hf
        rw [l1, l2]
        refine ⟨fun o ho hao => ?_, ⟨N, by omega, ha, rfl⟩, ⟨N, by omega, ha, rfl⟩⟩
        rcases Nat.lt_succ_iff_lt_or_eq.1 ho with h' | rfl
        · exact (hf ⟨o, h', hao⟩).elim
        · exact ⟨Int.le_refl _, Int.le_refl _⟩
    · obtain ⟨l1, l2⟩ := lo_off ha
      have hf : fndR w j N := (fnd_succ.1 h).resolve_right ha
      obtain ⟨h1, ⟨o1, ho1, ha1, e1⟩, ⟨o2, ho2, ha2, e2⟩⟩ := lo_min hf
      rw [l1, l2]
      refine ⟨fun o ho hao => ?_, ⟨o1, by omega, ha1, e1⟩, ⟨o2, by omega, ha2, e2⟩⟩
      rcases Nat.lt_succ_iff_lt_or_eq.1 ho with h' | rfl
      · exact h1 o h' hao
      · exact (ha hao).elim
theorem press_eq {w : Nw} (h : okNet w) {j : Nat} (hj : j < w.j.n) (hf : fndR w j (pw w.m.n)) : loR w j (pw w.m.n) = prLo w j ∧ upR w j (pw w.m.n) = prHi w j := by
  have hfr := (fnd_free h hj).1 hf
  obtain ⟨h1, ⟨o1, ho1, ha1, e1⟩, ⟨o2, ho2, ha2, e2⟩⟩ := lo_min hf
  obtain ⟨p1, hp1, hq1, f1⟩ := lw_at h hj hfr
  obtain ⟨p2, hp2, hq2, f2⟩ := hg_at h hj hfr
  have a1 := (h1 p1 hp1 hq1).1
  have a2 := (h1 p2 hp2 hq2).2
  have a3 := lw_ge h hj ha1
  have a4 := hg_le h hj ha2
  omega
theorem fed_free {w : Nw} {j : Nat} : fedS w.m j = 0 ↔ ¬ freeW w j := by
  unfold fedS freeW
  split
  · rename_i h
    obtain ⟨k, hk, hv⟩ := h
    exact ⟨fun _ h => h k hk hv, fun _ => rfl⟩
  · rename_i h
    refine ⟨fun e => ?_, fun h' => (h' fun t ht hv => h ⟨t, ht, hv⟩).elim⟩
    unfold stt at e
    split at e <;> cases e
theorem bad_eq {w : Nw} (h : okNet w) {j : Nat} (hj : j < w.j.n) : badJ w j ↔ badR w j := by
  constructor
  · rintro ⟨h1, h2⟩
    have hfr : freeW w j := Classical.byContradiction fun hn => h1 (fed_free.2 hn)
    have hf := (fnd_free h hj).2 hfr
    obtain ⟨e1, e2⟩ := press_eq h hj hf
    exact ⟨hf, by rw [e1, e2]; exact h2⟩
  · rintro ⟨hf, h2⟩
    obtain ⟨e1, e2⟩ := press_eq h hj hf
    exact ⟨fun h1 => fed_free.1 h1 ((fnd_free h hj).1 hf), by rw [e1, e2] at h2; exact h2⟩
theorem fst_eq {w : Nw} (h : okNet w) : ∀ {i : Nat}, i ≤ w.j.n → fstB w i = fstR w i
  | 0, _ => rfl
  | i + 1, hi => by
    simp only [fstB, fstR]
    rw [fst_eq h (by omega)]
    have := bad_eq h (j := i) (by omega)
    by_cases hb : badJ w i
    · simp [hb, this.1 hb]
    · have hr : ¬ badR w i := fun hr => hb (this.2 hr)
      simp [hb, hr]
theorem flt_eq (w : Nw) : FtE w = FtER w ∧ FtJ w = FtJR w ∧ (FtL w ↔ FtLR w) := by
  by_cases h : okNet w
  · have e := fst_eq h (Nat.le_refl _)
    have ei : ftI w ↔ ftIR w := ⟨fun x => ⟨by have := x.h; rwa [e] at this⟩, fun x => ⟨by have := x.h; rwa [← e] at this⟩⟩
    have e1 : FtE w = FtER w := by
      unfold FtE FtER
      by_cases hi : ftI w
      · simp [hi, ei.1 hi]
      · have hr : ¬ ftIR w := fun x => hi (ei.2 x)
        simp [hi, hr]
    have hz : FtE w = 0 → ftI w := fun h0 => by
      unfold FtE at h0
      rw [if_pos h] at h0
      split at h0
      · assumption
      · cases h0
    refine ⟨e1, ?_, ?_⟩
    · unfold FtJ FtJR
      rw [← e1]
      by_cases h0 : FtE w = 0
      · simp only [h0, if_true]
        unfold ftJ
        rw [if_pos (hz h0), e]
      · simp [h0]
    · have pe : FtE w = 0 → loR w (fstR w w.j.n) (pw w.m.n) = prLo w (fstB w w.j.n) := fun h0 => by
        have hlt := (hz h0).h
        have hb : badR w (fstB w w.j.n) := by
          -- the first one is not right
          have key : ∀ i, i ≤ w.j.n → fstR w i < i → badR w (fstR w i) := by
            intro i
            induction i with
            | zero => intro _ h; omega
            | succ i ih =>
              intro hi hl
              simp only [fstR] at hl ⊢
              by_cases h1 : fstR w i < i
              · rw [if_pos h1] at hl ⊢; exact ih (by omega) h1
              · rw [if_neg h1] at hl ⊢
                by_cases h2 : badR w i
                · rw [if_pos h2]; exact h2
                · rw [if_neg h2] at hl; omega
          rw [e]; exact key _ (Nat.le_refl _) (by rw [← e]; exact hlt)
        rw [← e]
        exact (press_eq h hlt hb.f).1
      exact ⟨fun x => ⟨by rw [← e1]; exact x.e, by rw [pe x.e, ← e]; exact x.l.h⟩, fun x => ⟨by rw [e1]; exact x.e, hz (by rw [e1]; exact x.e), by
        have := x.h
        rw [pe (by rw [e1]; exact x.e), ← e] at this
        exact this⟩⟩
  · have e1 : FtE w = 1 := by simp [FtE, h]
    have e2 : FtER w = 1 := by simp [FtER, h]
    refine ⟨by rw [e1, e2], by simp [FtJ, FtJR, e1, e2], fun x => ?_, fun x => ?_⟩
    · have := x.e; omega
    · have := x.e; omega
end Go.Proofs.Ytpannbkmpbioiaa

namespace Go.Proofs.Ytpannbkmpbioiaa
open Go Go.Lg
attribute [local irreducible] bodyH
theorem big_true (w : Nw) (n : Int) : bigG w n := by
  rw [bigG_vc]
  simp only [and_true, true_and, Nat.zero_lt_one, true_iff]
  refine ⟨fun h1 => ⟨fun h2 => ⟨.inl ⟨h1, h2⟩⟩, fun h2 => ⟨fun h3 => ⟨.inr (.inl h3)⟩, fun h3 => ⟨fun h => ⟨.inr (.inr h)⟩, fun h => ?_⟩⟩⟩, fun h1 => ⟨fun h2 => ⟨.inr (.inl h2)⟩, fun h2 => ⟨fun h => ⟨.inr (.inr h)⟩, fun h => ?_⟩⟩⟩
  · have := h.h; omega
  · have := h.h; omega
theorem big_ok : bigC.Ok Try.prog := netC_ok (by kernel_rfl) fun w r k hk => by
  split at hk
  · rename_i n
    have hh := big_true w n
    unfold bigG at hh
    exact ⟨_, okV nil_cs nil_x nil_ic hh trivial, hk⟩
  · exact hk.elim
end Go.Proofs.Ytpannbkmpbioiaa
