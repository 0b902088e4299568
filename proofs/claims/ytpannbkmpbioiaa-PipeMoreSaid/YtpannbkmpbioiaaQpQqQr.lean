import Derived.Test.YtpannbkmpbioiaaQmQn
import Derived.Test.YtpannbkmpbioiaaQoQoV
set_option linter.unusedVariables false
namespace Go.Proofs.Ytpannbkmpbioiaa
open Go Go.Lg
theorem up_congr {m m' : Mn} (h : m.fr = m'.fr) (j : Nat) : ∀ i, up m j i = up m' j i
  | 0 => rfl
  | i + 1 => by simp only [up]; rw [up_congr h j i, h]
theorem dpt_congr {m m' : Mn} (h : m.fr = m'.fr) : ∀ F j, dpt m F j = dpt m' F j
  | 0, j => rfl
  | F + 1, j => by simp only [dpt]; rw [h]; split; · rfl
                   · rw [dpt_congr h F]
theorem up_add (m : Mn) (j t : Nat) : ∀ s, up m j (t + s) = up m (up m j t) s
  | 0 => rfl
  | s + 1 => by
    show (m.fr (up m j (t + s) - 1)).toNat = _
    rw [up_add m j t s]; rfl
section
variable {m : Mn} (hm : okM m) {j : Nat} (hj : j ≤ m.n)
include hm hj
theorem w_at {i : Nat} (hi : i ≤ dpt m j j) : up m j i ≤ j ∧ (up m j i = 0 ↔ i = dpt m j j) ∧ (i < dpt m j j → up m j (i + 1) < up m j i) := way_at hm j j (Nat.le_refl _) hj i hi
theorem up_dec : ∀ {s t : Nat}, s < t → t ≤ dpt m j j → up m j t < up m j s := by
  intro s t hst ht
  obtain ⟨d, rfl⟩ : ∃ d, t = s + 1 + d := ⟨t - (s + 1), by omega⟩
  clear hst
  induction d with
  | zero => exact (w_at hm hj (i := s) (by omega)).2.2 (by omega)
  | succ d ih =>
    have h1 := ih (by omega)
    have h2 := (w_at hm hj (i := s + 1 + d) (by omega)).2.2 (by omega)
    rw [show s + 1 + (d + 1) = s + 1 + d + 1 by omega]; omega
theorem up_inj {s t : Nat} (hs : s ≤ dpt m j j) (ht : t ≤ dpt m j j) (h : up m j s = up m j t) : s = t := by
  rcases Nat.lt_trichotomy s t with h1 | h1 | h1
  · have := up_dec hm hj h1 ht; omega
  · exact h1
  · have := up_dec hm hj h1 hs; omega
theorem dpt_add : ∀ {t : Nat}, t ≤ dpt m j j → dpt m j j = t + dpt m (up m j t) (up m j t) := by
  intro t
  induction t with
  | zero => intro _; simp [up]
  | succ t ih =>
    intro ht
    have h1 := ih (by omega)
    have h2 := w_at hm hj (i := t) (by omega)
    have h3 := dpt_succ hm (j := up m j t) (by omega) (by omega)
    have e : up m j (t + 1) = (m.fr (up m j t - 1)).toNat := rfl
    rw [e]; omega
end
def memB (m : Mn) (b : Bool) (i x : Nat) : Prop := ∃ t, t ≤ dpt m x x ∧ up m x t = i ∧ ∀ s, s < t → pas b (m.va (up m x s - 1)) = true
def sumN (f : Nat → Int) : Nat → Int
  | 0 => 0
  | n + 1 => sumN f n + f n
theorem sumN_congr {f g : Nat → Int} : ∀ {n : Nat}, (∀ x, x < n → f x = g x) → sumN f n = sumN g n
  | 0, _ => rfl
  | n + 1, h => by simp only [sumN]; rw [sumN_congr fun x hx => h x (by omega), h n (by omega)]
theorem sumN_add (f g : Nat → Int) : ∀ n, sumN (fun x => f x + g x) n = sumN f n + sumN g n
  | 0 => rfl
  | n + 1 => by simp only [sumN]; rw [sumN_add f g n]; omega
theorem sumN_zero {f : Nat → Int} : ∀ {n : Nat}, (∀ x, x < n → f x = 0) → sumN f n = 0
  | 0, _ => rfl
  | n + 1, h => by simp only [sumN]; rw [sumN_zero fun x hx => h x (by omega), h n (by omega)]; rfl
theorem sumN_one {f : Nat → Int} {i : Nat} : ∀ {n : Nat}, i < n → (∀ x, x < n → x ≠ i → f x = 0) → sumN f n = f i
  | 0, h, _ => by omega
  | n + 1, hi, h => by
    simp only [sumN]
    by_cases e : i = n
    · subst e
      rw [sumN_zero fun x hx => h x (by omega) (by omega)]; omega
    · rw [sumN_one (i := i) (n := n) (by omega) fun x hx => h x (by omega), h n (by omega) (fun h => e h.symm)]; omega
theorem sumN_swap (f : Nat → Nat → Int) (a : Nat) : ∀ b, sumN (fun k => sumN (fun x => f k x) a) b = sumN (fun x => sumN (fun k => f k x) b) a
  | 0 => by
    show (0 : Int) = _
    exact (sumN_zero fun x hx => rfl).symm
  | b + 1 => by
    simp only [sumN]
    rw [sumN_swap f a b, ← sumN_add]
theorem sumN_le {f g : Nat → Int} : ∀ {n : Nat}, (∀ x, x < n → f x ≤ g x) → sumN f n ≤ sumN g n
  | 0, _ => Int.le_refl _
  | n + 1, h => by
    have h1 := sumN_le fun x hx => h x (Nat.lt_succ_of_lt hx)
    have h2 := h n (by omega)
    simp only [sumN]; omega
theorem sumL_append (f : Nat → Int) : ∀ l l', sumL f (l ++ l') = sumL f l + sumL f l'
  | [], l' => by simp [sumL]
  | x :: l, l' => by simp only [List.cons_append, sumL]; rw [sumL_append f l l']; omega
theorem sumL_flat (f : Nat → Int) (g : Nat → List Nat) : ∀ n, sumL f ((List.range n).flatMap g) = sumN (fun k => sumL f (g k)) n
  | 0 => rfl
  | n + 1 => by
    rw [List.range_succ, List.flatMap_append, sumL_append, sumL_flat f g n]
    simp [sumN]
open Classical in
theorem led_mem {m : Mn} (hm : okM m) (b : Bool) (f : Nat → Int) : ∀ F i, m.n + 1 - i ≤ F → i ≤ m.n → sumL f (ledL m b F i) = sumN (fun x => if memB m b i x then f x else 0) (m.n + 1)
  | 0, i, h, hi => by omega
  | F + 1, i, h, hi => by
    have key : ∀ x, x < m.n + 1 → (if memB m b i x then f x else 0) = (if x = i then f x else 0) + sumN (fun k => if (m.fr k = i ∧ pas b (m.va k) = true) ∧ memB m b (k + 1) x then f x else 0) m.n := by
      intro x hx
      have hx' : x ≤ m.n := by omega
      -- what leads on
      have ext : ∀ k, k < m.n → (m.fr k = i ∧ pas b (m.va k) = true) → ∀ t, t ≤ dpt m x x → up m x t = k + 1 → (∀ s, s < t → pas b (m.va (up m x s - 1)) = true) → t + 1 ≤ dpt m x x ∧ up m x (t + 1) = i ∧ ∀ s, s < t + 1 → pas b (m.va (up m x s - 1)) = true := by
        intro k hk hc t ht hu hp
        have h1 := w_at hm hx' ht
        have hlt : t < dpt m x x := by omega
        refine ⟨hlt, ?_, fun s hs => ?_⟩
        · show (m.fr (up m x t - 1)).toNat = i
          rw [hu, show k + 1 - 1 = k by omega, hc.1]; omega
        · rcases Nat.lt_succ_iff_lt_or_eq.1 hs with h' | rfl
          · exact hp s h'
          · rw [hu, show k + 1 - 1 = k by omega]; exact hc.2
      by_cases hxi : x = i
      · subst hxi
        have h0 : memB m b x x := ⟨0, by omega, rfl, fun s hs => by omega⟩
        rw [if_pos h0, if_pos rfl, sumN_zero]
        · omega
        · intro k hk
          apply if_neg
          rintro ⟨hc, t, ht, hu, hp⟩
          have h1 := (w_at hm hx' ht).1
          have h2 := hm k hk
          omega
      · rw [if_neg hxi]
        by_cases hb : memB m b i x
        · rw [if_pos hb]
          obtain ⟨t, ht, hu, hp⟩ := hb
          have ht0 : t ≠ 0 := fun h => hxi (by rw [h] at hu; exact hu)
          obtain ⟨t', rfl⟩ : ∃ t', t = t' + 1 := ⟨t - 1, by omega⟩
          have h1 := w_at hm hx' (i := t') (by omega)
          have hk : up m x t' - 1 < m.n := by omega
          have hfr : (m.fr (up m x t' - 1)).toNat = i := hu
          have hmk := hm _ hk
          have hq : (m.fr (up m x t' - 1) = i ∧ pas b (m.va (up m x t' - 1)) = true) ∧ memB m b (up m x t' - 1 + 1) x := ⟨⟨by omega, hp t' (by omega)⟩, t', by omega, by omega, fun s hs => hp s (by omega)⟩
          rw [sumN_one (i := up m x t' - 1) hk, if_pos hq]
          · omega
          · intro k hk' hne
            apply if_neg
            rintro ⟨hc, s, hs, hus, hps⟩
            obtain ⟨e1, e2, _⟩ := ext k hk' hc s hs hus hps
            have := up_inj hm hx' e1 ht (by rw [e2, hu])
            have : s = t' := by omega
            subst this
            omega
        · rw [if_neg hb, sumN_zero]
          · rfl
          · intro k hk
            apply if_neg
            rintro ⟨hc, t, ht, hu, hp⟩
            obtain ⟨e1, e2, e3⟩ := ext k hk hc t ht hu hp
            exact hb ⟨t + 1, e1, e2, e3⟩
    rw [sumN_congr key, sumN_add, ← sumN_swap]
    have e1 : sumN (fun x => if x = i then f x else 0) (m.n + 1) = f i := by
      rw [sumN_one (i := i) (by omega)]
      · simp
      · intro x _ hne; simp [hne]
    rw [e1]
    simp only [ledL, sumL]
    rw [sumL_flat]
    congr 1
    refine sumN_congr fun k hk => ?_
    by_cases hc : m.fr k = i ∧ pas b (m.va k) = true
    · rw [if_pos hc]
      have := hm k hk
      rw [led_mem hm b f F (k + 1) (by omega) (by omega)]
      refine sumN_congr fun x _ => ?_
      by_cases h1 : memB m b (k + 1) x
      · rw [if_pos h1, if_pos ⟨hc, h1⟩]
      · rw [if_neg h1, if_neg fun h => h1 h.2]
    · rw [if_neg hc]
      simp only [sumL]
      refine (sumN_zero fun x _ => ?_).symm
      exact if_neg fun h => hc h.1
open Classical in
theorem flow_mem {w : Nw} (h : okNet w) (b : Bool) {i : Nat} (hi : i < w.j.n) : flowS b w i = sumN (fun x => if memB w.m b i x then needE b (w.j.nl x) (w.j.nh x) else 0) w.j.n := by
  have hn := h.n
  unfold flowS led
  rw [led_mem h.okm b _ _ i (Nat.le_refl _) (by omega), hn.2.2]
end Go.Proofs.Ytpannbkmpbioiaa

set_option linter.unusedVariables false
namespace Go.Proofs.Ytpannbkmpbioiaa
open Go Go.Lg
theorem va_on {m : Mn} {j t : Nat} (ht : t < dpt m j j) : (opM m j).va (up m j t - 1) = 0 := by
  show vaT m j (dpt m j j) (up m j t - 1) = 0
  unfold vaT; rw [if_pos ⟨t, ht, rfl⟩]
theorem va_off {m : Mn} {j k : Nat} (h : ∀ q, q < dpt m j j → up m j q - 1 ≠ k) : (opM m j).va k = m.va k := by
  show vaT m j (dpt m j j) k = m.va k
  unfold vaT; rw [if_neg fun ⟨q, hq, e⟩ => h q hq e]
theorem va_cases (m : Mn) (j k : Nat) : (∃ q, q < dpt m j j ∧ up m j q - 1 = k ∧ (opM m j).va k = 0) ∨ ((opM m j).va k = m.va k ∧ ∀ q, q < dpt m j j → up m j q - 1 ≠ k) := by
  by_cases h : ∃ q, q < dpt m j j ∧ up m j q - 1 = k
  · obtain ⟨q, hq, rfl⟩ := h
    exact .inl ⟨q, hq, rfl, va_on hq⟩
  · have h : ∀ q, q < dpt m j j → up m j q - 1 ≠ k := fun q hq e => h ⟨q, hq, e⟩
    exact .inr ⟨va_off h, h⟩
theorem up_op (m : Mn) (j x t : Nat) : up (opM m j) x t = up m x t := up_congr (m := opM m j) (m' := m) rfl x t
theorem dpt_op (m : Mn) (j F x : Nat) : dpt (opM m j) F x = dpt m F x := dpt_congr (m := opM m j) (m' := m) rfl F x
section
variable {w : Nw} (h : okNet w) {j : Nat} {b : Bool} {o : Nat}
include h
end
theorem gov_mono {g p q : Int} (h : p ≤ q) : govd g p ≤ govd g q := by
  unfold govd; split
  · exact h
  · rcases Int.le_total p g with h1 | h1 <;> rcases Int.le_total q g with h2 | h2
    · rw [Int.min_eq_left h1, Int.min_eq_left h2]; exact h
    · rw [Int.min_eq_left h1, Int.min_eq_right h2]; exact h1
    · rw [Int.min_eq_right h1, Int.min_eq_left h2]; omega
    · rw [Int.min_eq_right h1, Int.min_eq_right h2]; exact Int.le_refl _
section
variable {w : Nw} (h : okNet w) {j : Nat} (hj : j < w.j.n) {b : Bool} {o : Nat}
include h hj
theorem chain (R : Int → Int → Prop) (hR : ∀ p, R p p) (hg : ∀ g p q, R p q → R (govd g p) (govd g q)) (hd : ∀ p q d f g, 0 ≤ d → R p q → R (0 - f) (0 - g) → R (p - d * f) (q - d * g)) (d : Nat → Int) (s : Int) (hs : s = srcE b w.s0 w.s1)
    (hf : ∀ t, t < dpt w.m j j → R (0 - flowS b (opW w j) (up w.m j t)) (0 - thr w.m o (up w.m j t - 1) d w.j.n)) :
    ∀ t, t ≤ dpt w.m j j → R (prS b (opW w j) (up w.m j t)) (atS w o d s (up w.m j t)) := by
  have hn := h.n
  intro t ht
  obtain ⟨c, hc⟩ : ∃ c, c = dpt w.m j j - t := ⟨_, rfl⟩
  induction c generalizing t with
  | zero =>
    have : up w.m j t = 0 := ((w_at h.okm (j := j) (by omega) ht).2.1).2 (by omega)
    rw [this, prS_zero, atS_zero, hs]
    exact hR _
  | succ c ih =>
    have hlt : t < dpt w.m j j := by omega
    have h1 := w_at h.okm (j := j) (by omega) ht
    have h2 := ih (t + 1) (by omega) (by omega)
    rw [prS_succ (h.op j) (j := up w.m j t) (by omega) (by show _ < w.j.n; omega), atS_succ h (j := up w.m j t) (by omega) (by omega)]
    refine hg _ _ _ ?_
    exact hd _ _ _ _ _ (h.ms (up w.m j t - 1) (by omega)).dr.1 h2 (hf t hlt)
def freeW (w : Nw) (j : Nat) : Prop := ∀ t, t < dpt w.m j j → ¬ w.m.va (up w.m j t - 1) = 1
end
end Go.Proofs.Ytpannbkmpbioiaa

set_option linter.unusedVariables false
namespace Go.Proofs.Ytpannbkmpbioiaa
open Go Go.Lg
attribute [local irreducible] bodyH
theorem big_true (w : Nw) (n : Int) : bigG w n := by
  rw [bigG_vc]
  simp only [and_true, true_and, Nat.zero_lt_one, true_iff]
  refine ⟨fun h1 => ⟨fun h2 => ⟨.inl ⟨h1, h2⟩⟩, fun h2 => ⟨fun h3 => ⟨.inr (.inl h3)⟩, fun h3 => ⟨fun h => ⟨.inr (.inr h)⟩, fun h => ?_⟩⟩⟩, fun h1 => ⟨fun h2 => ⟨.inr (.inl h2)⟩, fun h2 => ⟨fun h => ⟨.inr (.inr h)⟩, fun h => ?_⟩⟩⟩
  · have := h.h; omega
  · have := h.h; omega
theorem big_ok : bigC.Ok Try.prog := netC_ok (by kernel_rfl) fun w r k hk => by
  split at hk
  · rename_i n
    have hh := big_true w n
    unfold bigG at hh
    exact ⟨_, okV nil_cs nil_x nil_ic hh trivial, hk⟩
  · exact hk.elim
end Go.Proofs.Ytpannbkmpbioiaa
